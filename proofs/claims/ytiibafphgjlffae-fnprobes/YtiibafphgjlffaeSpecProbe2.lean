/- What spec's Gain, Pace, Cap and NewProbe answer. -/
import Derived.Test.YtiibafphgjlffaeSpecProbe
import Derived.Test.YtiibafphgjlffaeLate
import Derived.Test.YtiibafphgjlffaeLoss
namespace Go.Proofs.Ytiibafphgjlffae
open Go.ChangeShapes Go.WideShapes Go.ChangeAt Go.RowKit
set_option maxRecDepth 100000
set_option linter.unusedVariables false
set_option linter.unusedSimpArgs false

def gainOf (sa cy : Int) : Int := if sa = 1 then 289 else if sa = 2 then 35 else if sa = 3 then (if cy = 0 then 125 else if cy = 1 then 75 else 100) else 100
theorem gain_num (sa cy : Int) : 35 ≤ gainOf sa cy ∧ gainOf sa cy ≤ 289 := by
  unfold gainOf
  split <;> (try split) <;> (try split) <;> (try split) <;> (try split) <;> omega
theorem pok_fil {sa cy sn tp sv mt ta : Int} {xs : List (Int × Int)} (h : pokB sa cy sn tp sv mt ta xs = true) : FOk true xs ∧ timeB mt = true := by
  unfold pokB at h
  simp only [Bool.and_eq_true] at h
  exact ⟨fil_yes h.1.1.2, h.1.2⟩
theorem best_num {xs : List (Int × Int)} (h : FOk true xs) : 0 ≤ bestOf xs ∧ bestOf xs ≤ 1000000000000 := by
  match xs, h with
  | [], _ => exact ⟨Int.le_refl _, by decide⟩
  | x :: r, h =>
    have hs := (h.2 0 (by simp) (by simp)).1
    unfold smpB rateB at hs
    simp only [Bool.and_eq_true, decide_eq_true_eq] at hs
    exact hs.2
set_option maxHeartbeats 4000000 in
theorem specGain_no {sa cy sn tp sv mt ta : Int} {w : World} {a : Option Addr} (cap : Nat) {xs : List (Int × Int)} (hp : pokB sa cy sn tp sv mt ta xs = false) (smp : Smp w.heap.size w a xs) : Calls Try.prog 50 #[.agg #[.int .i64 sa, .int .i64 cy, .int .i64 sn, .int .i64 tp, .int .i64 sv, .slice a xs.length cap, .int .i64 mt, .int .i64 ta]] w fun e w' => e = .returned (.int .i64 0) ∧ Below w.heap.size w w' := by
  go_enter Try.func50, Try.ntmps50
  go_wp2_with (first
    | (go_at_call 51; refine (specProbeOk_is cap hp (smp.here (by go_grown))).mono ?_; rintro e w3 ⟨rfl, hb3⟩; have hbw : Below w.heap.size w w3 := below_two (by go_grown) hb3; have kc := below_cells4 hb3; have zl := hb3.size; (try simp at zl)))
  go_ret
  exact ⟨rfl, hbw⟩
set_option maxHeartbeats 4000000 in
theorem specGain_yes {sa cy sn tp sv mt ta : Int} {w : World} {a : Option Addr} (cap : Nat) {xs : List (Int × Int)} (hp : pokB sa cy sn tp sv mt ta xs = true) (smp : Smp w.heap.size w a xs) : Calls Try.prog 50 #[.agg #[.int .i64 sa, .int .i64 cy, .int .i64 sn, .int .i64 tp, .int .i64 sv, .slice a xs.length cap, .int .i64 mt, .int .i64 ta]] w fun e w' => e = .returned (.int .i64 (gainOf sa cy)) ∧ Below w.heap.size w w' := by
  by_cases h1 : sa = 1
  · subst h1
    rw [show gainOf 1 cy = 289 from rfl]
    go_enter Try.func50, Try.ntmps50
    go_wp2_with (first
      | (go_at_call 51; refine (specProbeOk_is cap hp (smp.here (by go_grown))).mono ?_; rintro e w3 ⟨rfl, hb3⟩; have hbw : Below w.heap.size w w3 := below_two (by go_grown) hb3; have kc := below_cells4 hb3; have zl := hb3.size; (try simp at zl)))
    go_ret
    exact ⟨rfl, hbw⟩
  by_cases h2 : sa = 2
  · subst h2
    rw [show gainOf 2 cy = 35 from rfl]
    go_enter Try.func50, Try.ntmps50
    go_wp2_with (first
      | (go_at_call 51; refine (specProbeOk_is cap hp (smp.here (by go_grown))).mono ?_; rintro e w3 ⟨rfl, hb3⟩; have hbw : Below w.heap.size w w3 := below_two (by go_grown) hb3; have kc := below_cells4 hb3; have zl := hb3.size; (try simp at zl)))
    go_ret
    exact ⟨rfl, hbw⟩
  by_cases h3 : sa = 3
  · subst h3
    by_cases c0 : cy = 0
    · subst c0
      rw [show gainOf 3 0 = 125 from rfl]
      go_enter Try.func50, Try.ntmps50
      go_wp2_with (first
        | (go_at_call 51; refine (specProbeOk_is cap hp (smp.here (by go_grown))).mono ?_; rintro e w3 ⟨rfl, hb3⟩; have hbw : Below w.heap.size w w3 := below_two (by go_grown) hb3; have kc := below_cells4 hb3; have zl := hb3.size; (try simp at zl)))
      go_ret
      exact ⟨rfl, hbw⟩
    by_cases c1 : cy = 1
    · subst c1
      rw [show gainOf 3 1 = 75 from rfl]
      go_enter Try.func50, Try.ntmps50
      go_wp2_with (first
        | (go_at_call 51; refine (specProbeOk_is cap hp (smp.here (by go_grown))).mono ?_; rintro e w3 ⟨rfl, hb3⟩; have hbw : Below w.heap.size w w3 := below_two (by go_grown) hb3; have kc := below_cells4 hb3; have zl := hb3.size; (try simp at zl)))
      go_ret
      exact ⟨rfl, hbw⟩
    rw [show gainOf 3 cy = 100 by unfold gainOf; simp [c0, c1]]
    go_enter Try.func50, Try.ntmps50
    go_wp2_with (first
      | (go_at_call 51; refine (specProbeOk_is cap hp (smp.here (by go_grown))).mono ?_; rintro e w3 ⟨rfl, hb3⟩; have hbw : Below w.heap.size w w3 := below_two (by go_grown) hb3; have kc := below_cells4 hb3; have zl := hb3.size; (try simp at zl)))
    go_ret
    exact ⟨rfl, hbw⟩
  rw [show gainOf sa cy = 100 by unfold gainOf; simp [h1, h2, h3]]
  go_enter Try.func50, Try.ntmps50
  go_wp2_with (first
    | (go_at_call 51; refine (specProbeOk_is cap hp (smp.here (by go_grown))).mono ?_; rintro e w3 ⟨rfl, hb3⟩; have hbw : Below w.heap.size w w3 := below_two (by go_grown) hb3; have kc := below_cells4 hb3; have zl := hb3.size; (try simp at zl)))
  go_ret
  exact ⟨rfl, hbw⟩
set_option maxHeartbeats 4000000 in
theorem specPace_no {sa cy sn tp sv mt ta : Int} {w : World} {a : Option Addr} (cap : Nat) {xs : List (Int × Int)} (hp : pokB sa cy sn tp sv mt ta xs = false) (smp : Smp w.heap.size w a xs) : Calls Try.prog 46 #[.agg #[.int .i64 sa, .int .i64 cy, .int .i64 sn, .int .i64 tp, .int .i64 sv, .slice a xs.length cap, .int .i64 mt, .int .i64 ta]] w fun e w' => e = .returned (.int .i64 0) ∧ Below w.heap.size w w' := by
  go_enter Try.func46, Try.ntmps46
  go_wp2_with (first
    | (go_at_call 51; refine (specProbeOk_is cap hp (smp.here (by go_grown))).mono ?_; rintro e w3 ⟨rfl, hb3⟩; have hbw : Below w.heap.size w w3 := below_two (by go_grown) hb3; have kc := below_cells4 hb3; have zl := hb3.size; (try simp at zl)))
  go_ret
  exact ⟨rfl, hbw⟩
set_option maxHeartbeats 4000000 in
theorem specPace_yes {sa cy sn tp sv mt ta : Int} {w : World} {a : Option Addr} (cap : Nat) {xs : List (Int × Int)} (hp : pokB sa cy sn tp sv mt ta xs = true) (smp : Smp w.heap.size w a xs) : Calls Try.prog 46 #[.agg #[.int .i64 sa, .int .i64 cy, .int .i64 sn, .int .i64 tp, .int .i64 sv, .slice a xs.length cap, .int .i64 mt, .int .i64 ta]] w fun e w' => e = .returned (.int .i64 (min 1000000000000 (bestOf xs * gainOf sa cy / 100))) ∧ Below w.heap.size w w' := by
  have HP : Hid (pokB sa cy sn tp sv mt ta xs = true) := hp
  obtain ⟨hf, hm⟩ := pok_fil hp
  have b0 := best_num hf
  obtain ⟨be, hbe⟩ : ∃ b, bestOf xs = b := ⟨_, rfl⟩
  rw [hbe] at b0 ⊢
  have HBE : Hid (bestOf xs = be) := hbe
  have g0 := gain_num sa cy
  obtain ⟨gn, hgn⟩ : ∃ g, gainOf sa cy = g := ⟨_, rfl⟩
  rw [hgn] at g0 ⊢
  have HG : Hid (gainOf sa cy = gn) := hgn
  have p0 : 0 ≤ be * gn := Int.mul_nonneg b0.1 (by omega)
  have p1 : be * gn ≤ 1000000000000 * 289 := Int.mul_le_mul b0.2 g0.2 (by omega) (by omega)
  have r1 : IntKind.i64.wrap (be * gn) = be * gn := by rw [IntKind.wrap_i64]; omega
  have ed := tdiv10 (x := be * gn) p0 100
  have r2 : IntKind.i64.wrap (be * gn / 100) = be * gn / 100 := by rw [IntKind.wrap_i64]; omega
  have HM := fun w => min10_any 1000000000000 (be * gn / 100) w
  clear hbe hgn hf hm
  go_enter Try.func46, Try.ntmps46
  go_upto_region 3 with (first
    | (go_at_call 51; refine (specProbeOk_is cap hp (smp.here (by go_grown))).mono ?_; rintro e w3 ⟨rfl, hb3⟩; have hbw : Below w.heap.size w w3 := below_two (by go_grown) hb3; have kc := below_cells4 hb3; have zl := hb3.size; (try simp at zl)))
  have s0 : w3.cell? ⟨w.heap.size, 0, none⟩ = some (.int .i64 sa) := (kc _ _ (by simp)).trans (by go_simp)
  have s1 : w3.cell? ⟨w.heap.size, 1, none⟩ = some (.int .i64 cy) := (kc _ _ (by simp)).trans (by go_simp)
  have s2 : w3.cell? ⟨w.heap.size, 2, none⟩ = some (.int .i64 sn) := (kc _ _ (by simp)).trans (by go_simp)
  have s3 : w3.cell? ⟨w.heap.size, 3, none⟩ = some (.int .i64 tp) := (kc _ _ (by simp)).trans (by go_simp)
  have s4 : w3.cell? ⟨w.heap.size, 4, none⟩ = some (.int .i64 sv) := (kc _ _ (by simp)).trans (by go_simp)
  have s5 : w3.cell? ⟨w.heap.size, 5, none⟩ = some (.slice a xs.length cap) := (kc _ _ (by simp)).trans (by go_simp)
  have s6 : w3.cell? ⟨w.heap.size, 6, none⟩ = some (.int .i64 mt) := (kc _ _ (by simp)).trans (by go_simp)
  have s7 : w3.cell? ⟨w.heap.size, 7, none⟩ = some (.int .i64 ta) := (kc _ _ (by simp)).trans (by go_simp)
  have HS : Hid (∀ w', Below w3.heap.size w3 w' → (fun w' => w'.cell? ⟨w.heap.size, 0, none⟩ = some (.int .i64 sa) ∧ w'.cell? ⟨w.heap.size, 1, none⟩ = some (.int .i64 cy) ∧ w'.cell? ⟨w.heap.size, 2, none⟩ = some (.int .i64 sn) ∧ w'.cell? ⟨w.heap.size, 3, none⟩ = some (.int .i64 tp) ∧ w'.cell? ⟨w.heap.size, 4, none⟩ = some (.int .i64 sv) ∧ w'.cell? ⟨w.heap.size, 5, none⟩ = some (.slice a xs.length cap) ∧ w'.cell? ⟨w.heap.size, 6, none⟩ = some (.int .i64 mt) ∧ w'.cell? ⟨w.heap.size, 7, none⟩ = some (.int .i64 ta)) w') := fun w' h => ⟨(h.cell (by show w.heap.size < _; omega)).trans s0, (h.cell (by show w.heap.size < _; omega)).trans s1, (h.cell (by show w.heap.size < _; omega)).trans s2, (h.cell (by show w.heap.size < _; omega)).trans s3, (h.cell (by show w.heap.size < _; omega)).trans s4, (h.cell (by show w.heap.size < _; omega)).trans s5, (h.cell (by show w.heap.size < _; omega)).trans s6, (h.cell (by show w.heap.size < _; omega)).trans s7⟩
  have hr : Below w3.heap.size w3 w3.drew := (Below.refl _ _).drew
  refine wp_region_held_drew (S := fun w' => w'.cell? ⟨w.heap.size, 0, none⟩ = some (.int .i64 sa) ∧ w'.cell? ⟨w.heap.size, 1, none⟩ = some (.int .i64 cy) ∧ w'.cell? ⟨w.heap.size, 2, none⟩ = some (.int .i64 sn) ∧ w'.cell? ⟨w.heap.size, 3, none⟩ = some (.int .i64 tp) ∧ w'.cell? ⟨w.heap.size, 4, none⟩ = some (.int .i64 sv) ∧ w'.cell? ⟨w.heap.size, 5, none⟩ = some (.slice a xs.length cap) ∧ w'.cell? ⟨w.heap.size, 6, none⟩ = some (.int .i64 mt) ∧ w'.cell? ⟨w.heap.size, 7, none⟩ = some (.int .i64 ta)) (by kernel_rfl) (HS.out _ hr) (fun hS => ?_)
  refine wpAnyH_take (i := 0) (v := ?_) rfl (by kernel_rfl) (by kernel_rfl) (by kernel_rfl) (fun _ _ _ h => h) (Or.inl ⟨by rfl, ?_⟩) (by assumption) ?_
  rotate_left 1
  · (intro w' hSw; (try dsimp only at hSw); go_simp; try with_reducible rfl)
  try simp only [Act.put, List.setIfInBounds_toArray, List.set_cons_zero, List.set_cons_succ, List.getElem_toArray, List.getElem_cons_succ, List.getElem_cons_zero]
  refine wpAnyH_take (i := 1) (v := ?_) rfl (by kernel_rfl) (by kernel_rfl) (by kernel_rfl) (fun _ _ _ h => h) (Or.inl ⟨by rfl, ?_⟩) (by assumption) ?_
  rotate_left 1
  · (intro w' hSw; (try dsimp only at hSw); go_simp; try with_reducible rfl)
  try simp only [Act.put, List.setIfInBounds_toArray, List.set_cons_zero, List.set_cons_succ, List.getElem_toArray, List.getElem_cons_succ, List.getElem_cons_zero]
  refine wpAnyH_take (i := 3) (v := ?_) rfl (by kernel_rfl) (by kernel_rfl) (by kernel_rfl) (fun _ _ _ h => h) (Or.inl ⟨by rfl, ?_⟩) (by assumption) ?_
  rotate_left 1
  · (intro w' hSw; (try dsimp only at hSw); go_simp; try with_reducible rfl)
  try simp only [Act.put, List.setIfInBounds_toArray, List.set_cons_zero, List.set_cons_succ, List.getElem_toArray, List.getElem_cons_succ, List.getElem_cons_zero]
  refine wpAnyH_ready (rs := [2]) (by kernel_rfl) (by simp) (AllReadyH.cons rfl (fun K hK => ?_) AllReadyH.nil)
  go_simp
  (refine (specBest_any cap (smp.here (below_two hbw hr)) (Nat.le_refl _)).mono ?_; rintro e x1 ⟨rfl, hbq⟩; rw [HBE.out]; have hr := hr.trans (hbq.mono hr.size); have hSq := HS.out _ hr)
  refine hK.out _ _ (by assumption) (fun _ => ?_)
  try simp only [Act.put, List.setIfInBounds_toArray, List.set_cons_zero, List.set_cons_succ, List.getElem_toArray, List.getElem_cons_succ, List.getElem_cons_zero]
  refine wpAnyH_ready (rs := [4]) (by kernel_rfl) (by simp) (AllReadyH.cons rfl (fun K hK => ?_) AllReadyH.nil)
  go_simp
  (refine (specGain_yes cap HP.out (smp.here (below_two hbw hr))).mono ?_; rintro e x2 ⟨rfl, hbq⟩; rw [HG.out]; have hr := hr.trans (hbq.mono hr.size); have hSq := HS.out _ hr)
  refine hK.out _ _ (by assumption) (fun _ => ?_)
  try simp only [Act.put, List.setIfInBounds_toArray, List.set_cons_zero, List.set_cons_succ, List.getElem_toArray, List.getElem_cons_succ, List.getElem_cons_zero]
  refine wpAnyH_take (i := 5) (v := ?_) rfl (by kernel_rfl) (by kernel_rfl) (by kernel_rfl) (fun _ _ _ h => h) (Or.inl ⟨by rfl, ?_⟩) (by assumption) ?_
  rotate_left 1
  · (intro w' hSw; (try dsimp only at hSw); go_simp; try with_reducible rfl)
  try simp only [Act.put, List.setIfInBounds_toArray, List.set_cons_zero, List.set_cons_succ, List.getElem_toArray, List.getElem_cons_succ, List.getElem_cons_zero]
  refine wpAnyH_take (i := 6) (v := ?_) rfl (by kernel_rfl) (by kernel_rfl) (by kernel_rfl) (fun _ _ _ h => h) (Or.inl ⟨by rfl, ?_⟩) (by assumption) ?_
  rotate_left 1
  · (intro w' hSw; (try dsimp only at hSw); go_simp; try with_reducible rfl)
  try simp only [Act.put, List.setIfInBounds_toArray, List.set_cons_zero, List.set_cons_succ, List.getElem_toArray, List.getElem_cons_succ, List.getElem_cons_zero]
  refine wpAnyH_ready (rs := [7]) (by kernel_rfl) (by simp) (AllReadyH.cons rfl (fun K hK => ?_) AllReadyH.nil)
  go_simp
  ((try rw [ed]); refine (HM _).mono ?_; rintro e x3 ⟨rfl, rfl⟩)
  refine hK.out _ _ (by assumption) (fun _ => ?_)
  try simp only [Act.put, List.setIfInBounds_toArray, List.set_cons_zero, List.set_cons_succ, List.getElem_toArray, List.getElem_cons_succ, List.getElem_cons_zero]
  refine wpAnyH_take (i := 8) (v := ?_) rfl (by kernel_rfl) (by kernel_rfl) (by kernel_rfl) (fun _ _ _ h => h) (Or.inl ⟨by rfl, ?_⟩) (by assumption) ?_
  rotate_left 1
  · (intro w' hSw; (try dsimp only at hSw); go_simp; try with_reducible rfl)
  try simp only [Act.put, List.setIfInBounds_toArray, List.set_cons_zero, List.set_cons_succ, List.getElem_toArray, List.getElem_cons_succ, List.getElem_cons_zero]
  refine wpAnyH_done (by kernel_rfl) ?_ _
  go_wp2
  go_ret
  exact ⟨rfl, below_two hbw hr⟩
set_option maxHeartbeats 4000000 in
theorem specCap_no {sa cy sn tp sv mt ta : Int} {w : World} {a : Option Addr} (cap : Nat) {xs : List (Int × Int)} (hp : pokB sa cy sn tp sv mt ta xs = false) (smp : Smp w.heap.size w a xs) : Calls Try.prog 48 #[.agg #[.int .i64 sa, .int .i64 cy, .int .i64 sn, .int .i64 tp, .int .i64 sv, .slice a xs.length cap, .int .i64 mt, .int .i64 ta]] w fun e w' => e = .returned (.int .i64 0) ∧ Below w.heap.size w w' := by
  go_enter Try.func48, Try.ntmps48
  go_wp2_with (first
    | (go_at_call 51; refine (specProbeOk_is cap hp (smp.here (by go_grown))).mono ?_; rintro e w3 ⟨rfl, hb3⟩; have hbw : Below w.heap.size w w3 := below_two (by go_grown) hb3; have kc := below_cells4 hb3; have zl := hb3.size; (try simp at zl)))
  go_ret
  exact ⟨rfl, hbw⟩
def capOf (sa mt : Int) (xs : List (Int × Int)) : Int := if sa = 4 then 6000 else min 1000000000 (max 6000 (2 * bytesOf (bestOf xs) mt))
set_option maxHeartbeats 4000000 in
theorem specCap_trip {cy sn tp sv mt ta : Int} {w : World} {a : Option Addr} (cap : Nat) {xs : List (Int × Int)} (hp : pokB 4 cy sn tp sv mt ta xs = true) (smp : Smp w.heap.size w a xs) : Calls Try.prog 48 #[.agg #[.int .i64 4, .int .i64 cy, .int .i64 sn, .int .i64 tp, .int .i64 sv, .slice a xs.length cap, .int .i64 mt, .int .i64 ta]] w fun e w' => e = .returned (.int .i64 6000) ∧ Below w.heap.size w w' := by
  go_enter Try.func48, Try.ntmps48
  go_wp2_with (first
    | (go_at_call 51; refine (specProbeOk_is cap hp (smp.here (by go_grown))).mono ?_; rintro e w3 ⟨rfl, hb3⟩; have hbw : Below w.heap.size w w3 := below_two (by go_grown) hb3; have kc := below_cells4 hb3; have zl := hb3.size; (try simp at zl)))
  go_ret
  exact ⟨rfl, hbw⟩
set_option maxHeartbeats 4000000 in
theorem specCap_yes {sa cy sn tp sv mt ta : Int} {w : World} {a : Option Addr} (cap : Nat) {xs : List (Int × Int)} (hp : pokB sa cy sn tp sv mt ta xs = true) (h4 : ¬ sa = 4) (smp : Smp w.heap.size w a xs) : Calls Try.prog 48 #[.agg #[.int .i64 sa, .int .i64 cy, .int .i64 sn, .int .i64 tp, .int .i64 sv, .slice a xs.length cap, .int .i64 mt, .int .i64 ta]] w fun e w' => e = .returned (.int .i64 (min 1000000000 (max 6000 (2 * bytesOf (bestOf xs) mt)))) ∧ Below w.heap.size w w' := by
  have HP : Hid (pokB sa cy sn tp sv mt ta xs = true) := hp
  obtain ⟨hf, hm⟩ := pok_fil hp
  have b0 := best_num hf
  obtain ⟨be, hbe⟩ : ∃ b, bestOf xs = b := ⟨_, rfl⟩
  rw [hbe] at b0 ⊢
  have HBE : Hid (bestOf xs = be) := hbe
  have m0 := tim_num hm
  have hy : bytesOf be mt = be * mt / 1000000000 := bytes_in b0.1 b0.2 m0.1 m0.2
  have p0 : 0 ≤ be * mt := Int.mul_nonneg b0.1 m0.1
  have p1 : be * mt ≤ 1000000000000 * 1000000000000000 := Int.mul_le_mul b0.2 m0.2 m0.1 (by omega)
  have HY := fun w => specBytes_any be mt w
  have y0 : 0 ≤ bytesOf be mt ∧ bytesOf be mt ≤ 1000000000000000000 := by rw [hy]; omega
  obtain ⟨yb, hyb⟩ : ∃ y, bytesOf be mt = y := ⟨_, rfl⟩
  rw [hyb] at HY y0 ⊢
  have r1 : IntKind.i64.wrap (2 * yb) = 2 * yb := by rw [IntKind.wrap_i64]; omega
  have HX := fun w => max10_any 6000 (2 * yb) w
  have HM := fun w => min10_any 1000000000 (max 6000 (2 * yb)) w
  clear hbe hf hm hy hyb p0 p1
  go_enter Try.func48, Try.ntmps48
  go_upto_region 6 with (first
    | (go_at_call 51; refine (specProbeOk_is cap hp (smp.here (by go_grown))).mono ?_; rintro e w3 ⟨rfl, hb3⟩; have hbw : Below w.heap.size w w3 := below_two (by go_grown) hb3; have kc := below_cells4 hb3; have zl := hb3.size; (try simp at zl)))
  have s0 : w3.cell? ⟨w.heap.size, 0, none⟩ = some (.int .i64 sa) := (kc _ _ (by simp)).trans (by go_simp)
  have s1 : w3.cell? ⟨w.heap.size, 1, none⟩ = some (.int .i64 cy) := (kc _ _ (by simp)).trans (by go_simp)
  have s2 : w3.cell? ⟨w.heap.size, 2, none⟩ = some (.int .i64 sn) := (kc _ _ (by simp)).trans (by go_simp)
  have s3 : w3.cell? ⟨w.heap.size, 3, none⟩ = some (.int .i64 tp) := (kc _ _ (by simp)).trans (by go_simp)
  have s4 : w3.cell? ⟨w.heap.size, 4, none⟩ = some (.int .i64 sv) := (kc _ _ (by simp)).trans (by go_simp)
  have s5 : w3.cell? ⟨w.heap.size, 5, none⟩ = some (.slice a xs.length cap) := (kc _ _ (by simp)).trans (by go_simp)
  have s6 : w3.cell? ⟨w.heap.size, 6, none⟩ = some (.int .i64 mt) := (kc _ _ (by simp)).trans (by go_simp)
  have s7 : w3.cell? ⟨w.heap.size, 7, none⟩ = some (.int .i64 ta) := (kc _ _ (by simp)).trans (by go_simp)
  have HS : Hid (∀ w', Below w3.heap.size w3 w' → (fun w' => w'.cell? ⟨w.heap.size, 0, none⟩ = some (.int .i64 sa) ∧ w'.cell? ⟨w.heap.size, 1, none⟩ = some (.int .i64 cy) ∧ w'.cell? ⟨w.heap.size, 2, none⟩ = some (.int .i64 sn) ∧ w'.cell? ⟨w.heap.size, 3, none⟩ = some (.int .i64 tp) ∧ w'.cell? ⟨w.heap.size, 4, none⟩ = some (.int .i64 sv) ∧ w'.cell? ⟨w.heap.size, 5, none⟩ = some (.slice a xs.length cap) ∧ w'.cell? ⟨w.heap.size, 6, none⟩ = some (.int .i64 mt) ∧ w'.cell? ⟨w.heap.size, 7, none⟩ = some (.int .i64 ta)) w') := fun w' h => ⟨(h.cell (by show w.heap.size < _; omega)).trans s0, (h.cell (by show w.heap.size < _; omega)).trans s1, (h.cell (by show w.heap.size < _; omega)).trans s2, (h.cell (by show w.heap.size < _; omega)).trans s3, (h.cell (by show w.heap.size < _; omega)).trans s4, (h.cell (by show w.heap.size < _; omega)).trans s5, (h.cell (by show w.heap.size < _; omega)).trans s6, (h.cell (by show w.heap.size < _; omega)).trans s7⟩
  have hr : Below w3.heap.size w3 w3.drew := (Below.refl _ _).drew
  refine wp_region_held_drew (S := fun w' => w'.cell? ⟨w.heap.size, 0, none⟩ = some (.int .i64 sa) ∧ w'.cell? ⟨w.heap.size, 1, none⟩ = some (.int .i64 cy) ∧ w'.cell? ⟨w.heap.size, 2, none⟩ = some (.int .i64 sn) ∧ w'.cell? ⟨w.heap.size, 3, none⟩ = some (.int .i64 tp) ∧ w'.cell? ⟨w.heap.size, 4, none⟩ = some (.int .i64 sv) ∧ w'.cell? ⟨w.heap.size, 5, none⟩ = some (.slice a xs.length cap) ∧ w'.cell? ⟨w.heap.size, 6, none⟩ = some (.int .i64 mt) ∧ w'.cell? ⟨w.heap.size, 7, none⟩ = some (.int .i64 ta)) (by kernel_rfl) (HS.out _ hr) (fun hS => ?_)
  refine wpAnyH_take (i := 0) (v := ?_) rfl (by kernel_rfl) (by kernel_rfl) (by kernel_rfl) (fun _ _ _ h => h) (Or.inl ⟨by rfl, ?_⟩) (by assumption) ?_
  rotate_left 1
  · (intro w' hSw; (try dsimp only at hSw); go_simp; try with_reducible rfl)
  try simp only [Act.put, List.setIfInBounds_toArray, List.set_cons_zero, List.set_cons_succ, List.getElem_toArray, List.getElem_cons_succ, List.getElem_cons_zero]
  refine wpAnyH_take (i := 1) (v := ?_) rfl (by kernel_rfl) (by kernel_rfl) (by kernel_rfl) (fun _ _ _ h => h) (Or.inl ⟨by rfl, ?_⟩) (by assumption) ?_
  rotate_left 1
  · (intro w' hSw; (try dsimp only at hSw); go_simp; try with_reducible rfl)
  try simp only [Act.put, List.setIfInBounds_toArray, List.set_cons_zero, List.set_cons_succ, List.getElem_toArray, List.getElem_cons_succ, List.getElem_cons_zero]
  refine wpAnyH_take (i := 2) (v := ?_) rfl (by kernel_rfl) (by kernel_rfl) (by kernel_rfl) (fun _ _ _ h => h) (Or.inl ⟨by rfl, ?_⟩) (by assumption) ?_
  rotate_left 1
  · (intro w' hSw; (try dsimp only at hSw); go_simp; try with_reducible rfl)
  try simp only [Act.put, List.setIfInBounds_toArray, List.set_cons_zero, List.set_cons_succ, List.getElem_toArray, List.getElem_cons_succ, List.getElem_cons_zero]
  refine wpAnyH_take (i := 4) (v := ?_) rfl (by kernel_rfl) (by kernel_rfl) (by kernel_rfl) (fun _ _ _ h => h) (Or.inl ⟨by rfl, ?_⟩) (by assumption) ?_
  rotate_left 1
  · (intro w' hSw; (try dsimp only at hSw); go_simp; try with_reducible rfl)
  try simp only [Act.put, List.setIfInBounds_toArray, List.set_cons_zero, List.set_cons_succ, List.getElem_toArray, List.getElem_cons_succ, List.getElem_cons_zero]
  refine wpAnyH_take (i := 5) (v := ?_) rfl (by kernel_rfl) (by kernel_rfl) (by kernel_rfl) (fun _ _ _ h => h) (Or.inl ⟨by rfl, ?_⟩) (by assumption) ?_
  rotate_left 1
  · (intro w' hSw; (try dsimp only at hSw); go_simp; try with_reducible rfl)
  try simp only [Act.put, List.setIfInBounds_toArray, List.set_cons_zero, List.set_cons_succ, List.getElem_toArray, List.getElem_cons_succ, List.getElem_cons_zero]
  refine wpAnyH_ready (rs := [3]) (by kernel_rfl) (by simp) (AllReadyH.cons rfl (fun K hK => ?_) AllReadyH.nil)
  go_simp
  (refine (specBest_any cap (smp.here (below_two hbw hr)) (Nat.le_refl _)).mono ?_; rintro e x1 ⟨rfl, hbq⟩; rw [HBE.out]; have hr := hr.trans (hbq.mono hr.size); have hSq := HS.out _ hr)
  refine hK.out _ _ (by assumption) (fun _ => ?_)
  try simp only [Act.put, List.setIfInBounds_toArray, List.set_cons_zero, List.set_cons_succ, List.getElem_toArray, List.getElem_cons_succ, List.getElem_cons_zero]
  refine wpAnyH_ready (rs := [6]) (by kernel_rfl) (by simp) (AllReadyH.cons rfl (fun K hK => ?_) AllReadyH.nil)
  go_simp
  (refine (HY _).mono ?_; rintro e x2 ⟨rfl, rfl⟩)
  refine hK.out _ _ (by assumption) (fun _ => ?_)
  try simp only [Act.put, List.setIfInBounds_toArray, List.set_cons_zero, List.set_cons_succ, List.getElem_toArray, List.getElem_cons_succ, List.getElem_cons_zero]
  refine wpAnyH_take (i := 7) (v := ?_) rfl (by kernel_rfl) (by kernel_rfl) (by kernel_rfl) (fun _ _ _ h => h) (Or.inl ⟨by rfl, ?_⟩) (by assumption) ?_
  rotate_left 1
  · (intro w' hSw; (try dsimp only at hSw); go_simp; try with_reducible rfl)
  try simp only [Act.put, List.setIfInBounds_toArray, List.set_cons_zero, List.set_cons_succ, List.getElem_toArray, List.getElem_cons_succ, List.getElem_cons_zero]
  refine wpAnyH_ready (rs := [8]) (by kernel_rfl) (by simp) (AllReadyH.cons rfl (fun K hK => ?_) AllReadyH.nil)
  go_simp
  (refine (HX _).mono ?_; rintro e x3 ⟨rfl, rfl⟩)
  refine hK.out _ _ (by assumption) (fun _ => ?_)
  try simp only [Act.put, List.setIfInBounds_toArray, List.set_cons_zero, List.set_cons_succ, List.getElem_toArray, List.getElem_cons_succ, List.getElem_cons_zero]
  refine wpAnyH_ready (rs := [9]) (by kernel_rfl) (by simp) (AllReadyH.cons rfl (fun K hK => ?_) AllReadyH.nil)
  go_simp
  (refine (HM _).mono ?_; rintro e x4 ⟨rfl, rfl⟩)
  refine hK.out _ _ (by assumption) (fun _ => ?_)
  try simp only [Act.put, List.setIfInBounds_toArray, List.set_cons_zero, List.set_cons_succ, List.getElem_toArray, List.getElem_cons_succ, List.getElem_cons_zero]
  refine wpAnyH_take (i := 10) (v := ?_) rfl (by kernel_rfl) (by kernel_rfl) (by kernel_rfl) (fun _ _ _ h => h) (Or.inl ⟨by rfl, ?_⟩) (by assumption) ?_
  rotate_left 1
  · (intro w' hSw; (try dsimp only at hSw); go_simp; try with_reducible rfl)
  try simp only [Act.put, List.setIfInBounds_toArray, List.set_cons_zero, List.set_cons_succ, List.getElem_toArray, List.getElem_cons_succ, List.getElem_cons_zero]
  refine wpAnyH_done (by kernel_rfl) ?_ _
  go_wp2
  go_ret
  exact ⟨rfl, below_two hbw hr⟩
theorem cells_eight {w : World} {g : Nat} {c0 c1 c2 c3 c4 c5 c6 c7 : Value} (h0 : w.cell? ⟨g, 0, none⟩ = some c0) (h1 : w.cell? ⟨g, 1, none⟩ = some c1) (h2 : w.cell? ⟨g, 2, none⟩ = some c2) (h3 : w.cell? ⟨g, 3, none⟩ = some c3) (h4 : w.cell? ⟨g, 4, none⟩ = some c4) (h5 : w.cell? ⟨g, 5, none⟩ = some c5) (h6 : w.cell? ⟨g, 6, none⟩ = some c6) (h7 : w.cell? ⟨g, 7, none⟩ = some c7) : ∀ j v, [c0, c1, c2, c3, c4, c5, c6, c7][j]? = some v → w.cell? ⟨g, j, none⟩ = some v := by
  intro j v hv
  match j, hv with
  | 0, hv => obtain rfl : c0 = v := by simpa using hv
             exact h0
  | 1, hv => obtain rfl : c1 = v := by simpa using hv
             exact h1
  | 2, hv => obtain rfl : c2 = v := by simpa using hv
             exact h2
  | 3, hv => obtain rfl : c3 = v := by simpa using hv
             exact h3
  | 4, hv => obtain rfl : c4 = v := by simpa using hv
             exact h4
  | 5, hv => obtain rfl : c5 = v := by simpa using hv
             exact h5
  | 6, hv => obtain rfl : c6 = v := by simpa using hv
             exact h6
  | 7, hv => obtain rfl : c7 = v := by simpa using hv
             exact h7
set_option maxHeartbeats 4000000 in
theorem specNewProbe_no {t : Int} (w : World) (h : timeB t = false) : Calls Try.prog 137 #[.int .i64 t] w fun e w' => e = .returned (.tuple #[.agg #[.int .i64 0, .int .i64 0, .int .i64 0, .int .i64 0, .int .i64 0, .slice none 0 0, .int .i64 0, .int .i64 0], .bool false]) ∧ Below w.heap.size w w' := by
  go_enter Try.func137, Try.ntmps137
  go_wp2_with (first
    | (go_at_call 73; refine (timP_is h _).mono ?_; rintro e w2 ⟨rfl, rfl⟩))
  refine bodyPost_ret (results_two rfl _ _ _ [.int .i64 0, .int .i64 0, .int .i64 0, .int .i64 0, .int .i64 0, .slice none 0 0, .int .i64 0, .int .i64 0] rfl (cells_eight (by go_simp) (by go_simp) (by go_simp) (by go_simp) (by go_simp) (by go_simp) (by go_simp) (by go_simp)) Try.underlying53 rfl (by kernel_rfl)) rfl ?_
  exact ⟨rfl, by go_grown⟩
set_option maxHeartbeats 4000000 in
theorem specNewProbe_yes {t : Int} (w : World) (h : timeB t = true) : Calls Try.prog 137 #[.int .i64 t] w fun e w' => e = .returned (.tuple #[.agg #[.int .i64 1, .int .i64 0, .int .i64 t, .int .i64 0, .int .i64 0, .slice none 0 0, .int .i64 0, .int .i64 t], .bool true]) ∧ Below w.heap.size w w' := by
  go_enter Try.func137, Try.ntmps137
  go_wp2_with (first
    | (go_at_call 73; refine (timP_is h _).mono ?_; rintro e w2 ⟨rfl, rfl⟩))
  refine bodyPost_ret (results_two rfl _ _ _ [.int .i64 1, .int .i64 0, .int .i64 t, .int .i64 0, .int .i64 0, .slice none 0 0, .int .i64 0, .int .i64 t] rfl (cells_eight (by go_simp) (by go_simp) (by go_simp) (by go_simp) (by go_simp) (by go_simp) (by go_simp) (by go_simp)) Try.underlying53 rfl (by kernel_rfl)) rfl ?_
  exact ⟨rfl, by go_grown⟩
end Go.Proofs.Ytiibafphgjlffae

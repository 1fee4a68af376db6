/- What spec.Advance answers. -/
import Derived.Test.YtdgefdjgpneanacSpecCancel
import Derived.Test.YtdgefdjgpneanacGrpC
import Derived.Test.YtdgefdjgpneanacLate
import Derived.Deep.CutRange
namespace Go.Proofs.Ytdgefdjgpneanac
open Go.ChangeShapes Go.WideShapes Go.ChangeAt Go.RowKit
set_option maxRecDepth 100000
set_option linter.unusedVariables false
set_option linter.unusedSimpArgs false

def dueTo (t : Int) (xs : List (Int × Int)) (k : Nat) : List Int := ((xs.take k).filter fun x => decide (x.2 ≤ t)).map Prod.fst
def restTo (t : Int) (xs : List (Int × Int)) (k : Nat) : List (Int × Int) := (xs.take k).filter fun x => !decide (x.2 ≤ t)
def dueOf (t : Int) (xs : List (Int × Int)) : List Int := (xs.filter fun x => decide (x.2 ≤ t)).map Prod.fst
def restOf (t : Int) (xs : List (Int × Int)) : List (Int × Int) := xs.filter fun x => !decide (x.2 ≤ t)
theorem due_all (t : Int) (xs : List (Int × Int)) : dueTo t xs xs.length = dueOf t xs := by unfold dueTo dueOf; rw [List.take_length]
theorem rest_all (t : Int) (xs : List (Int × Int)) : restTo t xs xs.length = restOf t xs := by unfold restTo restOf; rw [List.take_length]
theorem due_le (t : Int) (xs : List (Int × Int)) (k : Nat) : (dueTo t xs k).length ≤ xs.length := by
  unfold dueTo
  rw [List.length_map]
  exact Nat.le_trans (List.length_filter_le _ _) (by rw [List.length_take]; exact Nat.min_le_right _ _)
theorem rest_le (t : Int) (xs : List (Int × Int)) (k : Nat) : (restTo t xs k).length ≤ xs.length := Nat.le_trans (List.length_filter_le _ _) (by rw [List.length_take]; exact Nat.min_le_right _ _)
theorem adv_due {t : Int} {xs : List (Int × Int)} {k : Nat} (h : k < xs.length) (hk : xs[k].2 ≤ t) : dueTo t xs (k + 1) = dueTo t xs k ++ [xs[k].1] ∧ restTo t xs (k + 1) = restTo t xs k := by
  unfold dueTo restTo
  rw [List.take_succ_eq_append_getElem h, List.filter_append, List.filter_append, List.map_append]
  simp [hk]
theorem adv_rest {t : Int} {xs : List (Int × Int)} {k : Nat} (h : k < xs.length) (hk : ¬ xs[k].2 ≤ t) : dueTo t xs (k + 1) = dueTo t xs k ∧ restTo t xs (k + 1) = restTo t xs k ++ [xs[k]] := by
  unfold dueTo restTo
  rw [List.take_succ_eq_append_getElem h, List.filter_append, List.filter_append, List.map_append]
  simp [hk]
/-- A wheel and a list of numbers that were made anew. -/
def AdvPost (w : World) (t : Int) (L : List (Int × Int)) (D : List Int) (e : Ending) (w' : World) : Prop := ∃ a n c a' n' c', e = .returned (.tuple #[.agg #[.int .i64 t, .slice a n c], .slice a' n' c']) ∧ FW w' w.heap.size (.slice a n c) L ∧ IV w' w.heap.size (.slice a' n' c') D ∧ (∀ g, roomB (.slice a n c) = some g → (Value.slice a' n' c').ownBlock ≠ some g) ∧ Below w.heap.size w w'
/-- What the walk of Advance keeps: the wheel that came in, the answer's place, the wheel that is made. -/
structure AdvB (w : World) (B : Nat) (t : Int) (s u : Value) (wr : World) : Prop where
  c1 : wr.cell? ⟨w.heap.size, 1, none⟩ = some s
  r0 : wr.cell? ⟨w.heap.size + 1, 0, none⟩ = some (.int .i64 0)
  r1 : wr.cell? ⟨w.heap.size + 1, 1, none⟩ = some (.slice none 0 0)
  o0 : wr.cell? ⟨B, 0, none⟩ = some (.int .i64 t)
  o1 : wr.cell? ⟨B, 1, none⟩ = some u
  fr : ∀ o : Nat, wr.frozen? ⟨w.heap.size + 1, o, none⟩ = false
  fo : ∀ o : Nat, wr.frozen? ⟨B, o, none⟩ = false
  hb : Below w.heap.size w wr
  lo : w.heap.size + 1 < B
  hi : B < wr.heap.size
theorem AdvB.grown {w : World} {B : Nat} {t : Int} {s u : Value} {wr w' : World} {row : Option Nat} (h : AdvB w B t s u wr) (hg : wr.grownBy w' row) (hr : ∀ j, row = some j → B < j) : AdvB w B t s u w' := by
  have lo := h.lo
  have hi := h.hi
  have ne : ∀ j, j ≤ B → some j ≠ row := fun j hj e => by have := hr j e.symm; omega
  have far : ∀ b o : Nat, b ≤ B → w'.cell? ⟨b, o, none⟩ = wr.cell? ⟨b, o, none⟩ := fun b o hb => World.cell?_of_block (hg.block b (by omega) (ne b hb))
  have faz : ∀ b o : Nat, b ≤ B → w'.frozen? ⟨b, o, none⟩ = wr.frozen? ⟨b, o, none⟩ := fun b o hb => World.frozen?_of_block (hg.block b (by omega) (ne b hb))
  exact ⟨(far _ _ (by omega)).trans h.c1, (far _ _ (by omega)).trans h.r0, (far _ _ (by omega)).trans h.r1,
    (far _ _ (by omega)).trans h.o0, (far _ _ (by omega)).trans h.o1,
    fun o => (faz _ _ (by omega)).trans (h.fr o), fun o => (faz _ _ (by omega)).trans (h.fo o),
    h.hb.grown hg h.hb.size (fun g hg => by have := hr g hg; omega), lo, Nat.lt_of_lt_of_le hi hg.size⟩
theorem AdvB.drew {w : World} {B : Nat} {t : Int} {s u : Value} {wr : World} (h : AdvB w B t s u wr) : AdvB w B t s u wr.drew := ⟨h.c1, h.r0, h.r1, h.o0, h.o1, h.fr, h.fo, h.hb.drew, h.lo, h.hi⟩
theorem AdvB.set {w : World} {B : Nat} {t : Int} {s u : Value} {wr : World} (h : AdvB w B t s u wr) (u' : Value) : AdvB w B t s u' (wr.setCell ⟨B, 1, none⟩ u') := by
  have lo := h.lo
  exact ⟨(set_far (by dsimp only; omega)).trans h.c1, (set_far (by dsimp only; omega)).trans h.r0, (set_far (by dsimp only; omega)).trans h.r1, (World.cell?_setCell_other _ _ _ _ (fun e => by injection e with _ e _; omega)).trans h.o0, set_same _ h.o1,
    fun o => by simp [h.fr], fun o => by simp [h.fo], h.hb.setCell (by dsimp only; omega) _, lo, by simp; exact h.hi⟩
set_option maxHeartbeats 2000000 in
theorem specAdvance_bad {w : World} {now : Int} {a : Option Addr} (cap : Nat) {xs : List (Int × Int)} (t : Int) (h : Smp w.heap.size w a xs) (hl : (xs.length : Int) ≤ 9223372036854775807) (hW : ¬ WOk now xs) :
    Calls Try.prog 26 #[.agg #[.int .i64 now, .slice a xs.length cap], .int .i64 t] w (AdvPost w 0 [] []) := by
  go_enter Try.func26, Try.ntmps26
  go_wp2_with (first
    | (go_at_call 28; refine (specWheelOk_no cap (h.here (by go_grown)) hl hW).mono ?_; rintro e w2 ⟨rfl, hb2⟩; have kc := below_cells hb2; have kf := below_frozens hb2; have hbw := startw hb2; have y1 := sizew hb2; have zb := hb2.size))
  have d0 : w2.cell? ⟨w.heap.size + 1, 0, none⟩ = some (.int .i64 0) := (kc _ _ (by simp)).trans (by go_simp)
  have d1 : w2.cell? ⟨w.heap.size + 1, 1, none⟩ = some (.slice none 0 0) := (kc _ _ (by simp)).trans (by go_simp)
  have ne : w2.heap.size ≠ w.heap.size + 1 := by omega
  have ne' : w.heap.size + 1 ≠ w2.heap.size := by omega
  clear kc kf
  refine bodyPost_ret (results_two rfl _ _ _ [.int .i64 0, .slice none 0 0] rfl (cells_two (by go_simp) (by go_simp)) Try.underlying36 rfl (by kernel_rfl)) rfl ?_
  exact ⟨_, _, _, _, _, _, rfl, .inr ⟨⟨_, rfl⟩, rfl⟩, .inl ⟨_, _, rfl, hbw.size, by simp, ⟨fun j hj => (by cases hj), fun j hj => (by cases hj)⟩, Nat.le_refl _⟩, fun g hg => (by cases hg), by go_grown⟩
set_option maxHeartbeats 2000000 in
theorem specAdvance_time {w : World} {now : Int} {a : Option Addr} (cap : Nat) {xs : List (Int × Int)} (t : Int) (h : Smp w.heap.size w a xs) (hW : WOk now xs) (hT : timeB t = false) :
    Calls Try.prog 26 #[.agg #[.int .i64 now, .slice a xs.length cap], .int .i64 t] w (AdvPost w 0 [] []) := by
  have hl := hW.2.1
  have HW : Hid (WOk now xs) := hW
  clear hW
  go_enter Try.func26, Try.ntmps26
  go_wp2_with (first
    | (go_at_call 28; refine (specWheelOk_yes cap (h.here (by go_grown)) HW.out).mono ?_; rintro e w2 ⟨rfl, hb2⟩; have kc := below_cells hb2; have kf := below_frozens hb2; have hbw := startw hb2; have y1 := sizew hb2; have zb := hb2.size)
    | (go_at_call 56; refine (time_any _ _).mono ?_; rintro e w2 ⟨rfl, rfl⟩; rw [hT]))
  have d0 : w2.cell? ⟨w.heap.size + 1, 0, none⟩ = some (.int .i64 0) := (kc _ _ (by simp)).trans (by go_simp)
  have d1 : w2.cell? ⟨w.heap.size + 1, 1, none⟩ = some (.slice none 0 0) := (kc _ _ (by simp)).trans (by go_simp)
  have ne : w2.heap.size ≠ w.heap.size + 1 := by omega
  have ne' : w.heap.size + 1 ≠ w2.heap.size := by omega
  clear kc kf
  refine bodyPost_ret (results_two rfl _ _ _ [.int .i64 0, .slice none 0 0] rfl (cells_two (by go_simp) (by go_simp)) Try.underlying36 rfl (by kernel_rfl)) rfl ?_
  exact ⟨_, _, _, _, _, _, rfl, .inr ⟨⟨_, rfl⟩, rfl⟩, .inl ⟨_, _, rfl, hbw.size, by simp, ⟨fun j hj => (by cases hj), fun j hj => (by cases hj)⟩, Nat.le_refl _⟩, fun g hg => (by cases hg), by go_grown⟩
set_option maxHeartbeats 2000000 in
theorem specAdvance_late {w : World} {now : Int} {a : Option Addr} (cap : Nat) {xs : List (Int × Int)} (t : Int) (h : Smp w.heap.size w a xs) (hW : WOk now xs) (hT : timeB t = true) (hE : t < now) :
    Calls Try.prog 26 #[.agg #[.int .i64 now, .slice a xs.length cap], .int .i64 t] w (AdvPost w 0 [] []) := by
  have hl := hW.2.1
  have HW : Hid (WOk now xs) := hW
  clear hW
  go_enter Try.func26, Try.ntmps26
  go_wp2_with (first
    | (go_at_call 28; refine (specWheelOk_yes cap (h.here (by go_grown)) HW.out).mono ?_; rintro e w2 ⟨rfl, hb2⟩; have kc := below_cells hb2; have kf := below_frozens hb2; have hbw := startw hb2; have y1 := sizew hb2; have zb := hb2.size)
    | (go_at_call 56; refine (time_any _ _).mono ?_; rintro e w2 ⟨rfl, rfl⟩; rw [hT]))
  have d0 : w2.cell? ⟨w.heap.size + 1, 0, none⟩ = some (.int .i64 0) := (kc _ _ (by simp)).trans (by go_simp)
  have d1 : w2.cell? ⟨w.heap.size + 1, 1, none⟩ = some (.slice none 0 0) := (kc _ _ (by simp)).trans (by go_simp)
  have ne : w2.heap.size ≠ w.heap.size + 1 := by omega
  have ne' : w.heap.size + 1 ≠ w2.heap.size := by omega
  clear kc kf
  refine bodyPost_ret (results_two rfl _ _ _ [.int .i64 0, .slice none 0 0] rfl (cells_two (by go_simp) (by go_simp)) Try.underlying36 rfl (by kernel_rfl)) rfl ?_
  exact ⟨_, _, _, _, _, _, rfl, .inr ⟨⟨_, rfl⟩, rfl⟩, .inl ⟨_, _, rfl, hbw.size, by simp, ⟨fun j hj => (by cases hj), fun j hj => (by cases hj)⟩, Nat.le_refl _⟩, fun g hg => (by cases hg), by go_grown⟩
set_option maxHeartbeats 4000000 in
theorem specAdvance_yes {w : World} {now : Int} {a : Option Addr} (cap : Nat) {xs : List (Int × Int)} (t : Int) (h : Smp w.heap.size w a xs) (hW : WOk now xs) (hT : timeB t = true) (hE : now ≤ t) :
    Calls Try.prog 26 #[.agg #[.int .i64 now, .slice a xs.length cap], .int .i64 t] w (AdvPost w t (restOf t xs) (dueOf t xs)) := by
  have hl := hW.2.1
  have HW : Hid (WOk now xs) := hW
  clear hW
  have hE' : decide (t < now) = false := decide_eq_false (by omega)
  obtain ⟨i0, hi, hz0, hz1, hz2⟩ := info_parts info_tim
  obtain ⟨j0, hj, jz0, jz1, jz2⟩ := info_parts info_i64
  go_enter Try.func26, Try.ntmps26
  go_wp2_with (first
    | (go_at_call 28; refine (specWheelOk_yes cap (h.here (by go_grown)) HW.out).mono ?_; rintro e w2 ⟨rfl, hb2⟩; have kc := below_cells hb2; have kf := below_frozens hb2; have hbw := startw hb2; have y1 := sizew hb2; have zb := hb2.size)
    | (go_at_call 56; refine (time_any _ _).mono ?_; rintro e w2 ⟨rfl, rfl⟩; rw [hT]))
  have st : AdvB w w2.heap.size t (.slice a xs.length cap) (.slice none 0 0) ((w2.alloc (.cells #[.int .i64 t, .slice none 0 0] 36)).alloc (.cells #[] 2)) := by
    have e : Below w2.heap.size w2 ((w2.alloc (.cells #[.int .i64 t, .slice none 0 0] 36)).alloc (.cells #[] 2)) := by go_grown
    have k := below_cells e
    have kz := below_frozens e
    exact ⟨(k _ _ (by omega)).trans ((kc _ _ (by simp; omega)).trans (by go_simp)), (k _ _ (by omega)).trans ((kc _ _ (by simp)).trans (by go_simp)), (k _ _ (by omega)).trans ((kc _ _ (by simp)).trans (by go_simp)), by go_simp, by go_simp,
      fun o => (kz _ _ (by omega)).trans ((kf _ _ (by simp)).trans (by go_simp)), fun o => by go_simp, below_step hbw e, by omega, by simp; omega⟩
  clear kc kf zb hb2
  go_loopw [7, 8] (fun v i wr => ∃ (k : Nat) (ua : Option Addr) (un uc : Nat), i = .int .i64 k ∧ k ≤ xs.length ∧ AdvB w w2.heap.size t (.slice a xs.length cap) (.slice ua un uc) wr ∧ wr.ownsRow (w2.heap.size + 1) 87 2 (.slice ua un uc) (restTo t xs k).length (flat (restTo t xs k)) ∧ wr.ownsRow (w2.heap.size + 1) 2 1 v (dueTo t xs k).length (flatI (dueTo t xs k))) (fun _ i _ => xs.length - (intOf i).toNat)
  case atStart => exact ⟨0, none, 0, 0, rfl, by omega, st, World.ownsRow_nil _ _ _ _, own_none1 (w2.alloc _) (w2.heap.size + 1) _ (by simp) (by simp) _⟩
  case round =>
    clear st
    obtain ⟨k, ua, un, uc, rfl, hk, st, hown, hdue⟩ := hrel
    obtain ⟨c1, r0, r1, o0, o1, fr, fo, hwr, lo, hhi⟩ := st
    by_cases hlt : k < xs.length
    · obtain ⟨b, off, rfl, hb, e0, e1⟩ := h.at hwr k hlt
      have hlt' : (k : Int) < (xs.length : Int) := by omega
      obtain ⟨x, hx⟩ : ∃ x, xs[k] = x := ⟨_, rfl⟩
      rw [hx] at e0 e1
      obtain ⟨p, q⟩ := x
      have HX : Hid (xs[k] = (p, q)) := hx
      clear hx
      simp only at e0 e1
      have HLR : Hid ((restTo t xs k).length ≤ 200) := Nat.le_trans (rest_le _ _ _) hl
      have HLD : Hid ((dueTo t xs k).length ≤ 200) := Nat.le_trans (due_le _ _ _) hl
      by_cases hq : q ≤ t
      · have hks := adv_due (t := t) (k := k) (xs := xs) hlt (by rw [HX.out]; exact hq)
        rw [HX.out] at hks
        have HK : Hid (dueTo t xs (k + 1) = dueTo t xs k ++ [p] ∧ restTo t xs (k + 1) = restTo t xs k) := hks
        clear hks
        go_wp2_with (first
          | (at_builtin; refine wpList_append_own _ rfl _ _ 43 rfl (w2.heap.size + 1) 2 j0 _ 1 8 Try.underlying43 hj jz0 jz1 jz2 rfl (by decide) _ _ _ rfl (hdue.alloc _) ⟨wr.heap.size, 0, none⟩ 1 1 [.int .i64 p] rfl rfl ?c1 ?c2 ?c3 ?c4 ?c5 ?c6; rotate_left 5; intro v' w' hown' hgr hnil))
        case c1 => exact one_news (by go_simp)
        case c2 => exact flatI_one [p]
        case c3 => have := HLD.out; unfold maxLen; omega
        case c4 => have := HLD.out; omega
        case c5 => simp; omega
        have hga : wr.grownBy (wr.alloc (.cells #[.int .i64 p] 2)) none := World.grownBy_alloc _ _ _
        have st2 := (AdvB.grown ⟨c1, r0, r1, o0, o1, fr, fo, hwr, lo, hhi⟩ hga (fun j hj => by cases hj)).grown hgr (fun j hj => by have := (hdue.lt j hj).1; omega)
        have ow2 := (hown.alloc (.cells #[.int .i64 p] 2)).kept hgr (rows_keep hown hdue (by decide))
        go_roundw
        case rel => exact ⟨k + 1, ua, un, uc, by go_num, by omega, st2, by rw [HK.out.2]; exact ow2, by rw [HK.out.1, flatI_append, List.length_append]; exact hown'⟩
        case measure => first | (simp [intOf]; done) | (simp [intOf]; omega)
      · have hq' : decide (q ≤ t) = false := decide_eq_false hq
        have hks := adv_rest (t := t) (k := k) (xs := xs) hlt (by rw [HX.out]; exact hq)
        rw [HX.out] at hks
        have HK : Hid (dueTo t xs (k + 1) = dueTo t xs k ∧ restTo t xs (k + 1) = restTo t xs k ++ [(p, q)]) := hks
        clear hks
        go_wp2
        refine region_late (S := fun w' => w'.cell? ⟨w2.heap.size, 1, none⟩ = some (.slice ua un uc) ∧ w'.cell? ⟨w.heap.size, 1, none⟩ = some (.slice (some ⟨b, off, none⟩) xs.length cap) ∧ w'.cell? ⟨b, off + k * 2, none⟩ = some (.int .i64 p) ∧ w'.cell? ⟨b, off + k * 2 + 1, none⟩ = some (.int .i64 q)) 10 (by kernel_rfl) (⟨by go_simp, by go_simp, by go_simp, by go_simp⟩) (fun hS => ?_)
        refine late_take (i := 0) (v := ?_) rfl (by kernel_rfl) (by kernel_rfl) (by kernel_rfl) (by kernel_rfl) (fun _ _ _ h => h) (Or.inl ⟨by rfl, ?_⟩) (by assumption) ?_
        rotate_left 1
        · (intro w' hSw; (try dsimp only at hSw); go_simp; try with_reducible rfl)
        try simp only [Act.put, List.setIfInBounds_toArray, List.set_cons_zero, List.set_cons_succ, List.getElem_toArray, List.getElem_cons_succ, List.getElem_cons_zero]
        refine late_take (i := 1) (v := ?_) rfl (by kernel_rfl) (by kernel_rfl) (by kernel_rfl) (by kernel_rfl) (fun _ _ _ h => h) (Or.inl ⟨by rfl, ?_⟩) (by assumption) ?_
        rotate_left 1
        · (intro w' hSw; (try dsimp only at hSw); go_simp; try with_reducible rfl)
        try simp only [Act.put, List.setIfInBounds_toArray, List.set_cons_zero, List.set_cons_succ, List.getElem_toArray, List.getElem_cons_succ, List.getElem_cons_zero]
        refine late_take (i := 2) (v := ?_) rfl (by kernel_rfl) (by kernel_rfl) (by kernel_rfl) (by kernel_rfl) (fun _ _ _ h => h) (Or.inl ⟨by rfl, ?_⟩) (by assumption) ?_
        rotate_left 1
        · (intro w' hSw; (try dsimp only at hSw); go_simp; try with_reducible rfl)
        try simp only [Act.put, List.setIfInBounds_toArray, List.set_cons_zero, List.set_cons_succ, List.getElem_toArray, List.getElem_cons_succ, List.getElem_cons_zero]
        refine late_take (i := 3) (v := ?_) rfl (by kernel_rfl) (by kernel_rfl) (by kernel_rfl) (by kernel_rfl) (fun _ _ _ h => h) (Or.inl ⟨by rfl, ?_⟩) (by assumption) ?_
        rotate_left 1
        · (intro w' hSw; (try dsimp only at hSw); go_simp; try with_reducible rfl)
        try simp only [Act.put, List.setIfInBounds_toArray, List.set_cons_zero, List.set_cons_succ, List.getElem_toArray, List.getElem_cons_succ, List.getElem_cons_zero]
        refine late_take (i := 4) (v := ?_) rfl (by kernel_rfl) (by kernel_rfl) (by kernel_rfl) (by kernel_rfl) (fun _ _ _ h => h) (Or.inl ⟨by rfl, ?_⟩) (by assumption) ?_
        rotate_left 1
        · (intro w' hSw; (try dsimp only at hSw); go_simp; try with_reducible rfl)
        try simp only [Act.put, List.setIfInBounds_toArray, List.set_cons_zero, List.set_cons_succ, List.getElem_toArray, List.getElem_cons_succ, List.getElem_cons_zero]
        refine late_take (i := 5) (v := ?_) rfl (by kernel_rfl) (by kernel_rfl) (by kernel_rfl) (by kernel_rfl) (fun _ _ _ h => h) (Or.inl ⟨by rfl, ?_⟩) (by assumption) ?_
        rotate_left 1
        · (intro w' hSw; (try dsimp only at hSw); go_simp; try with_reducible rfl)
        try simp only [Act.put, List.setIfInBounds_toArray, List.set_cons_zero, List.set_cons_succ, List.getElem_toArray, List.getElem_cons_succ, List.getElem_cons_zero]
        refine late_take (i := 6) (v := ?_) rfl (by kernel_rfl) (by kernel_rfl) (by kernel_rfl) (by kernel_rfl) (fun _ _ _ h => h) (Or.inl ⟨by rfl, ?_⟩) (by assumption) ?_
        rotate_left 1
        · (intro w' hSw; (try dsimp only at hSw); go_simp; try with_reducible rfl)
        try simp only [Act.put, List.setIfInBounds_toArray, List.set_cons_zero, List.set_cons_succ, List.getElem_toArray, List.getElem_cons_succ, List.getElem_cons_zero]
        refine late_one (i := 7) (by kernel_rfl) rfl (fun K hK => ?_)
        go_simp
        refine hK.out _ _ (have k := below_cells (w := wr) (w' := (wr.drew.alloc (.cells #[.int .i64 p, .int .i64 q] 87))) (by go_grown); ⟨(k _ _ (by omega)).trans o1, (k _ _ (by omega)).trans c1, (k _ _ (by omega)).trans e0, (k _ _ (by omega)).trans e1⟩) (fun hS => ?_)
        try simp only [Act.put, List.setIfInBounds_toArray, List.set_cons_zero, List.set_cons_succ, List.getElem_toArray, List.getElem_cons_succ, List.getElem_cons_zero]
        refine late_one (i := 8) (by kernel_rfl) rfl (fun K hK => ?_)
        rw [if_pos (by rfl)]
        refine wp_append_own _ _ _ 34 rfl (w2.heap.size + 1) 87 i0 _ 2 16 Try.underlying34 hi hz0 hz1 hz2 rfl (by decide) _ _ _ rfl (hown.drew.alloc _) ⟨wr.heap.size, 0, none⟩ 1 1 [.int .i64 p, .int .i64 q] rfl rfl (two_news (by go_simp) (by go_simp)) (flat_one' [(p, q)]) (by have := HLR.out; unfold maxLen; omega) (by have := HLR.out; omega) (by simp; omega) ?_
        intro v' w' hown' hgr hnil
        obtain ⟨a', c', rfl⟩ := own_slice hown'
        have hga : wr.drew.grownBy (wr.drew.alloc (.cells #[.int .i64 p, .int .i64 q] 87)) none := World.grownBy_alloc wr.drew _ _
        have st2 := (AdvB.grown (AdvB.drew ⟨c1, r0, r1, o0, o1, fr, fo, hwr, lo, hhi⟩) hga (fun j hj => by cases hj)).grown hgr (fun j hj => by have := (hown.lt j hj).1; omega)
        have du2 := (hdue.drew.alloc (.cells #[.int .i64 p, .int .i64 q] 87)).kept hgr (rows_keep hdue hown (by decide))
        have far : ∀ {e : TypeId} {s n : Nat} {v : Value} {l : List Value}, w'.ownsRow (w2.heap.size + 1) e s v n l → (w'.setCell ⟨w2.heap.size, 1, none⟩ (.slice a' ((restTo t xs k).length + 1) c')).ownsRow (w2.heap.size + 1) e s v n l := fun hh => hh.kept (grown_set _ _ _ _) (Or.inr (fun e => by have := (hh.lt _ e).1; omega))
        have ow3 := far hown'
        have du3 := far du2
        have ee := h.cells st2.hb k hlt
        rw [HX.out] at ee
        refine hK.out _ _ ⟨st2.o1, st2.c1, ee.1, ee.2⟩ (fun hS => ?_)
        clear far ee
        have fo3 := st2.fo
        have o13 := st2.o1
        try simp only [Act.put, List.setIfInBounds_toArray, List.set_cons_zero, List.set_cons_succ, List.getElem_toArray, List.getElem_cons_succ, List.getElem_cons_zero]
        refine late_take (i := 9) (v := ?_) rfl (by kernel_rfl) (by kernel_rfl) (by kernel_rfl) (by kernel_rfl) (fun _ _ _ h => h) (Or.inl ⟨by rfl, ?_⟩) (by assumption) ?_
        rotate_left 1
        · (intro w' hSw; (try dsimp only at hSw); go_simp; try with_reducible rfl)
        try simp only [Act.put, List.setIfInBounds_toArray, List.set_cons_zero, List.set_cons_succ, List.getElem_toArray, List.getElem_cons_succ, List.getElem_cons_zero]
        refine late_last (by kernel_rfl) rfl (by kernel_rfl) (fun K hK => ?_)
        go_simp
        refine hK.out _ _ ?_
        try simp only [Act.put, List.setIfInBounds_toArray, List.set_cons_zero, List.set_cons_succ, List.getElem_toArray, List.getElem_cons_succ, List.getElem_cons_zero]
        go_wp2
        go_roundw
        case rel => exact ⟨k + 1, a', _, c', by go_num, by omega, st2.set _, by rw [HK.out.2, flat_append, List.length_append]; exact ow3, by rw [HK.out.1]; exact du3⟩
        case measure => first | (simp [intOf]; done) | (simp [intOf]; omega)
    · have e : k = xs.length := by omega
      subst e
      rw [rest_all] at hown
      rw [due_all] at hdue
      have hap := rows_apart hown hdue (by decide)
      have f1 := own_fv hown
      have f2 := own_ints hdue
      obtain ⟨da, dc, rfl⟩ := own_slice hdue
      have ne : w.heap.size + 1 ≠ w2.heap.size := by omega
      go_wp2
      refine bodyPost_ret (results_two rfl _ _ _ [.int .i64 t, .slice ua un uc] rfl (set_two (u0 := .int .i64 0) (u1 := .slice none 0 0) _ _ r0 r1) Try.underlying36 rfl (by kernel_rfl)) rfl ?_
      have og1 : Only (w.heap.size + 1) wr (wr.setCell ⟨w.heap.size + 1, 0, none⟩ (.int .i64 t)) := (Only.refl (w.heap.size + 1) wr).setCell rfl _
      have og2 : Only (w.heap.size + 1) wr ((wr.setCell ⟨w.heap.size + 1, 0, none⟩ (.int .i64 t)).setCell ⟨w.heap.size + 1, 1, none⟩ (.slice ua un uc)) := og1.setCell rfl _
      have og := OnlyO.of_only og2
      exact ⟨_, _, _, _, _, _, rfl, (f1.lower (by omega)).onlyO og (fun g hg e => by have := (f1.own hg).1; injection e with e; omega), (f2.lower (by omega)).onlyO og (fun g hg e => by have := (f2.own hg).1; injection e with e; omega), fun g hg => hap g (room_own hg), by go_grown⟩
end Go.Proofs.Ytdgefdjgpneanac

/- What impl.Arm answers. -/
import Derived.Test.YtdgefdjgpneanacImplOk
import Derived.Test.YtdgefdjgpneanacImplDel
import Derived.Test.YtdgefdjgpneanacSpecArm
import Derived.Test.YtdgefdjgpneanacAdvMath
import Derived.Test.YtdgefdjgpneanacLate
namespace Go.Proofs.Ytdgefdjgpneanac
open Go.ChangeShapes Go.WideShapes Go.ChangeAt Go.RowKit
set_option linter.unusedVariables false
set_option linter.unusedSimpArgs false
set_option maxRecDepth 100000

/-! Put in order: the mathematics -/
theorem ins_cons (y : Int × Int) (L : List (Int × Int)) (x : Int × Int) : insOf (y :: L) x = if befB y x = true then y :: insOf L x else x :: y :: L := by
  unfold insOf
  by_cases h : befB y x = true
  · simp [h]
  · simp [h]
theorem ins_mem {L : List (Int × Int)} {x z : Int × Int} (h : z ∈ insOf L x) : z = x ∨ z ∈ L := by
  unfold insOf at h
  rcases List.mem_append.1 h with h | h
  · exact .inr ((List.takeWhile_sublist _).subset h)
  · rcases List.mem_cons.1 h with h | h
    · exact .inl h
    · exact .inr ((List.dropWhile_sublist _).subset h)
theorem ins_perm (L : List (Int × Int)) (x : Int × Int) : (insOf L x).Perm (L ++ [x]) := by
  unfold insOf
  refine List.perm_middle.trans ?_
  rw [List.takeWhile_append_dropWhile]
  exact (List.perm_append_singleton x L).symm
theorem ins_order : ∀ {L : List (Int × Int)} {x : Int × Int}, L.Pairwise (fun y z => befB y z = true) → (∀ y ∈ L, y.1 ≠ x.1) → (insOf L x).Pairwise (fun y z => befB y z = true)
  | [], x, _, _ => by simp [insOf]
  | y :: L, x, hp, hx => by
    obtain ⟨h1, h2⟩ := List.pairwise_cons.1 hp
    rw [ins_cons]
    by_cases h : befB y x = true
    · rw [if_pos h]
      refine List.pairwise_cons.2 ⟨fun z hz => ?_, ins_order h2 (fun z hz => hx z (List.mem_cons_of_mem _ hz))⟩
      rcases ins_mem hz with rfl | hz
      · exact h
      · exact h1 z hz
    · rw [if_neg h]
      have hne := hx y (List.mem_cons_self ..)
      have hxy : befB x y = true := by
        rw [bef_num] at h ⊢
        omega
      refine List.pairwise_cons.2 ⟨fun z hz => ?_, hp⟩
      rcases List.mem_cons.1 hz with rfl | hz
      · exact hxy
      · exact bef_trans hxy (h1 z hz)
theorem ins_same {now id at' : Int} {xs ys : List (Int × Int)} (hW : WOk now xs) (hp : ys.Perm (withoutOf id xs ++ [(id, at')])) (ho : InOrd byT ys) : ys = insOf (withoutOf id xs) (id, at') := by
  obtain ⟨_, _, _, h4, _⟩ := hW.all
  have hs := ins_order (L := withoutOf id xs) (x := (id, at')) (h4.filter _) (fun y hy => by
    have := (List.mem_filter.1 hy).2
    simpa using this)
  refine List.Perm.eq_of_pairwise (le := fun y z => ¬ befB z y = true) ?_ ?_ ?_ (hp.trans (ins_perm _ _).symm)
  · rintro ⟨a, b⟩ ⟨c, d⟩ _ _ k1 k2
    rw [bef_num] at k1 k2
    simp only at k1 k2
    have e1 : b = d := by omega
    have e2 : a = c := by omega
    rw [e1, e2]
  · rw [List.pairwise_iff_getElem]
    intro i j hi hj hij
    have := ho i j hi hj hij
    rw [byT_neg] at this
    exact this
  · refine hs.imp ?_
    intro y z k
    rw [bef_num] at k ⊢
    omega
theorem start3 {w w' : World} {A B C : Obj} (h : Below (((w.alloc A).alloc B).alloc C).heap.size (((w.alloc A).alloc B).alloc C) w') : Below w.heap.size w w' := below_step (w := w) (by go_grown) h
theorem size3 {w w' : World} {A B C : Obj} (h : Below (((w.alloc A).alloc B).alloc C).heap.size (((w.alloc A).alloc B).alloc C) w') : w.heap.size + 2 < w'.heap.size := by
  have := h.size
  simp at this
  omega
set_option maxHeartbeats 2000000 in
theorem iarm_bad {w : World} {now : Int} {a : Option Addr} (cap : Nat) {xs : List (Int × Int)} (id at' : Int) (h : Smp w.heap.size w a xs) (hc : xs.length ≤ cap) (hn : a = none → cap = 0) (hl : (xs.length : Int) ≤ 9223372036854775807) (hW : ¬ WOk now xs) :
    Calls Try.prog 19 #[.agg #[.int .i64 now, .slice a xs.length cap], .int .i64 id, .int .i64 at'] w (WheelPost w 0 [] false) := by
  go_enter Try.func19, Try.ntmps19
  go_wp2_with (first
    | (go_at_call 24; refine (implWheelOk_no cap (h.here (by go_grown)) hc hn hl hW).mono ?_; rintro e w2 ⟨rfl, hb2⟩; have kc := below_cells hb2; have kf := below_frozens hb2; have hbw := start3 hb2; have y1 := size3 hb2; have zb := hb2.size))
  have d0 : w2.cell? ⟨w.heap.size + 1, 0, none⟩ = some (.int .i64 0) := (kc _ _ (by simp)).trans (by go_simp)
  have d1 : w2.cell? ⟨w.heap.size + 1, 1, none⟩ = some (.slice none 0 0) := (kc _ _ (by simp)).trans (by go_simp)
  clear kc kf
  refine bodyPost_ret (results_two rfl _ _ _ [.int .i64 0, .slice none 0 0] rfl (set_two (u0 := .int .i64 0) (u1 := .slice none 0 0) _ _ d0 d1) Try.underlying36 rfl (by kernel_rfl)) rfl ?_
  exact WheelPost.zero (by go_grown)
set_option maxHeartbeats 2000000 in
theorem iarm_not {w : World} {now : Int} {a : Option Addr} (cap : Nat) {xs : List (Int × Int)} (id at' : Int) (h : Smp w.heap.size w a xs) (hc : xs.length ≤ cap) (hn : a = none → cap = 0) (hW : WOk now xs) (hA : timB now (id, at') = false) :
    Calls Try.prog 19 #[.agg #[.int .i64 now, .slice a xs.length cap], .int .i64 id, .int .i64 at'] w (WheelPost w 0 [] false) := by
  have hl := hW.2.1
  have HW : Hid (WOk now xs) := hW
  clear hW
  go_enter Try.func19, Try.ntmps19
  go_wp2_with (first
    | (go_at_call 24; refine (implWheelOk_yes cap (h.here (by go_grown)) hc hn HW.out).mono ?_; rintro e w2 ⟨rfl, hb2⟩; have kc := below_cells hb2; have kf := below_frozens hb2; have hbw := start3 hb2; have y1 := size3 hb2; have zb := hb2.size; have q0 : w2.cell? ⟨w.heap.size, 0, none⟩ = some (.int .i64 now) := (kc _ _ (by simp; omega)).trans (by go_simp); have q1 : w2.cell? ⟨w.heap.size, 1, none⟩ = some (.slice a xs.length cap) := (kc _ _ (by simp; omega)).trans (by go_simp); have q2 : w2.cell? ⟨w.heap.size + 2, 0, none⟩ = some (.int .i64 id) := (kc _ _ (by simp)).trans (by go_simp); have q3 : w2.cell? ⟨w.heap.size + 2, 1, none⟩ = some (.int .i64 at') := (kc _ _ (by simp)).trans (by go_simp))
    | (go_at_call 70; refine (mayHold_any _ _ _ _ _ _ _).mono ?_; rintro e w2' ⟨rfl, hb2'⟩; rw [hA]; have kc := fun b o h => (below_cells hb2' b o (Nat.lt_of_lt_of_le h zb)).trans (kc b o h); have kf := fun b o h => (below_frozens hb2' b o (Nat.lt_of_lt_of_le h zb)).trans (kf b o h); have zb := Nat.le_trans zb hb2'.size; have hbw := below_step hbw hb2'; have y1 := Nat.lt_of_lt_of_le y1 hb2'.size; have q0 := (below_cells hb2' _ _ (by omega)).trans q0; have q1 := (below_cells hb2' _ _ (by omega)).trans q1; have q2 := (below_cells hb2' _ _ (by omega)).trans q2; have q3 := (below_cells hb2' _ _ (by omega)).trans q3))
  have d0 : w2'.cell? ⟨w.heap.size + 1, 0, none⟩ = some (.int .i64 0) := (kc _ _ (by simp)).trans (by go_simp)
  have d1 : w2'.cell? ⟨w.heap.size + 1, 1, none⟩ = some (.slice none 0 0) := (kc _ _ (by simp)).trans (by go_simp)
  clear kc kf
  refine bodyPost_ret (results_two rfl _ _ _ [.int .i64 0, .slice none 0 0] rfl (set_two (u0 := .int .i64 0) (u1 := .slice none 0 0) _ _ d0 d1) Try.underlying36 rfl (by kernel_rfl)) rfl ?_
  exact WheelPost.zero (by go_grown)
set_option maxHeartbeats 2000000 in
theorem iarm_full {w : World} {now : Int} {a : Option Addr} (cap : Nat) {xs : List (Int × Int)} (id at' : Int) (h : Smp w.heap.size w a xs) (hc : xs.length ≤ cap) (hn : a = none → cap = 0) (hW : WOk now xs) (hA : timB now (id, at') = true) (hF : (withoutOf id xs).length = 200) :
    Calls Try.prog 19 #[.agg #[.int .i64 now, .slice a xs.length cap], .int .i64 id, .int .i64 at'] w (WheelPost w 0 [] false) := by
  have hl := hW.2.1
  have HW : Hid (WOk now xs) := hW
  clear hW
  obtain ⟨L, hL⟩ : ∃ L, withoutOf id xs = L := ⟨_, rfl⟩
  have hLl : L.length ≤ 200 := Nat.le_trans (hL ▸ without_le id xs) hl
  have HL : Hid (withoutOf id xs = L) := hL
  rw [hL] at hF
  have hF' : (L.length : Int) = 200 := by omega
  have HLl : Hid (L.length = 200) := hF
  clear hL hLl hF
  go_enter Try.func19, Try.ntmps19
  go_wp2_with (first
    | (go_at_call 24; refine (implWheelOk_yes cap (h.here (by go_grown)) hc hn HW.out).mono ?_; rintro e w2 ⟨rfl, hb2⟩; have kc := below_cells hb2; have kf := below_frozens hb2; have hbw := start3 hb2; have y1 := size3 hb2; have zb := hb2.size; have q0 : w2.cell? ⟨w.heap.size, 0, none⟩ = some (.int .i64 now) := (kc _ _ (by simp; omega)).trans (by go_simp); have q1 : w2.cell? ⟨w.heap.size, 1, none⟩ = some (.slice a xs.length cap) := (kc _ _ (by simp; omega)).trans (by go_simp); have q2 : w2.cell? ⟨w.heap.size + 2, 0, none⟩ = some (.int .i64 id) := (kc _ _ (by simp)).trans (by go_simp); have q3 : w2.cell? ⟨w.heap.size + 2, 1, none⟩ = some (.int .i64 at') := (kc _ _ (by simp)).trans (by go_simp))
    | (go_at_call 70; refine (mayHold_any _ _ _ _ _ _ _).mono ?_; rintro e w2' ⟨rfl, hb2'⟩; rw [hA]; have kc := fun b o h => (below_cells hb2' b o (Nat.lt_of_lt_of_le h zb)).trans (kc b o h); have kf := fun b o h => (below_frozens hb2' b o (Nat.lt_of_lt_of_le h zb)).trans (kf b o h); have zb := Nat.le_trans zb hb2'.size; have hbw := below_step hbw hb2'; have y1 := Nat.lt_of_lt_of_le y1 hb2'.size; have q0 := (below_cells hb2' _ _ (by omega)).trans q0; have q1 := (below_cells hb2' _ _ (by omega)).trans q1; have q2 := (below_cells hb2' _ _ (by omega)).trans q2; have q3 := (below_cells hb2' _ _ (by omega)).trans q3)
    | (go_at_call 71; refine (without_any now cap id (h.here hbw) (by omega)).mono ?_; rw [HL.out]; rintro e w3 ⟨v, rfl, hown, hb3⟩; obtain ⟨ua, uc, rfl⟩ := own_slice hown; have kc := fun b o h => (below_cells hb3 b o (Nat.lt_of_lt_of_le h zb)).trans (kc b o h); have kf := fun b o h => (below_frozens hb3 b o (Nat.lt_of_lt_of_le h zb)).trans (kf b o h); have zb := Nat.le_trans zb hb3.size; have hbw := below_step hbw hb3; have y1 := Nat.lt_of_lt_of_le y1 hb3.size; have zc := hb3.size))
  have d0 : w3.cell? ⟨w.heap.size + 1, 0, none⟩ = some (.int .i64 0) := (kc _ _ (by simp)).trans (by go_simp)
  have d1 : w3.cell? ⟨w.heap.size + 1, 1, none⟩ = some (.slice none 0 0) := (kc _ _ (by simp)).trans (by go_simp)
  clear kc kf
  refine bodyPost_ret (results_two rfl _ _ _ [.int .i64 0, .slice none 0 0] rfl (set_two (u0 := .int .i64 0) (u1 := .slice none 0 0) _ _ d0 d1) Try.underlying36 rfl (by kernel_rfl)) rfl ?_
  exact WheelPost.zero (by go_grown)
set_option maxHeartbeats 4000000 in
theorem implArm_yes {w : World} {now : Int} {a : Option Addr} (cap : Nat) {xs : List (Int × Int)} (id at' : Int) (h : Smp w.heap.size w a xs) (hc : xs.length ≤ cap) (hn : a = none → cap = 0) (hW : WOk now xs) (hA : armOk now id at' = true) (hF : (withoutOf id xs).length ≠ 200) :
    Calls Try.prog 19 #[.agg #[.int .i64 now, .slice a xs.length cap], .int .i64 id, .int .i64 at'] w (WheelPost w now (insOf (withoutOf id xs) (id, at')) true) := by
  have hA : timB now (id, at') = true := hA
  have hl := hW.2.1
  have HW : Hid (WOk now xs) := hW
  clear hW
  obtain ⟨L, hL⟩ : ∃ L, withoutOf id xs = L := ⟨_, rfl⟩
  have hLl : L.length ≤ 200 := Nat.le_trans (hL ▸ without_le id xs) hl
  have HL : Hid (withoutOf id xs = L) := hL
  rw [hL] at hF
  have hF' : ((L.length : Int) == 200) = false := by simp; omega
  have HLl : Hid (L.length ≤ 200) := hLl
  rw [hL]
  clear hL hLl hF
  obtain ⟨i0, hi, hz0, hz1, hz2⟩ := info_parts info_tim
  go_enter Try.func19, Try.ntmps19
  go_wp2_with (first
    | (go_at_call 24; refine (implWheelOk_yes cap (h.here (by go_grown)) hc hn HW.out).mono ?_; rintro e w2 ⟨rfl, hb2⟩; have kc := below_cells hb2; have kf := below_frozens hb2; have hbw := start3 hb2; have y1 := size3 hb2; have zb := hb2.size; have q0 : w2.cell? ⟨w.heap.size, 0, none⟩ = some (.int .i64 now) := (kc _ _ (by simp; omega)).trans (by go_simp); have q1 : w2.cell? ⟨w.heap.size, 1, none⟩ = some (.slice a xs.length cap) := (kc _ _ (by simp; omega)).trans (by go_simp); have q2 : w2.cell? ⟨w.heap.size + 2, 0, none⟩ = some (.int .i64 id) := (kc _ _ (by simp)).trans (by go_simp); have q3 : w2.cell? ⟨w.heap.size + 2, 1, none⟩ = some (.int .i64 at') := (kc _ _ (by simp)).trans (by go_simp))
    | (go_at_call 70; refine (mayHold_any _ _ _ _ _ _ _).mono ?_; rintro e w2' ⟨rfl, hb2'⟩; rw [hA]; have kc := fun b o h => (below_cells hb2' b o (Nat.lt_of_lt_of_le h zb)).trans (kc b o h); have kf := fun b o h => (below_frozens hb2' b o (Nat.lt_of_lt_of_le h zb)).trans (kf b o h); have zb := Nat.le_trans zb hb2'.size; have hbw := below_step hbw hb2'; have y1 := Nat.lt_of_lt_of_le y1 hb2'.size; have q0 := (below_cells hb2' _ _ (by omega)).trans q0; have q1 := (below_cells hb2' _ _ (by omega)).trans q1; have q2 := (below_cells hb2' _ _ (by omega)).trans q2; have q3 := (below_cells hb2' _ _ (by omega)).trans q3)
    | (go_at_call 71; refine (without_any now cap id (h.here hbw) (by omega)).mono ?_; rw [HL.out]; rintro e w3 ⟨v, rfl, hown, hb3⟩; obtain ⟨ua, uc, rfl⟩ := own_slice hown; have kc := fun b o h => (below_cells hb3 b o (Nat.lt_of_lt_of_le h zb)).trans (kc b o h); have kf := fun b o h => (below_frozens hb3 b o (Nat.lt_of_lt_of_le h zb)).trans (kf b o h); have zb := Nat.le_trans zb hb3.size; have hbw := below_step hbw hb3; have y1 := Nat.lt_of_lt_of_le y1 hb3.size; have zc := hb3.size))
  have q0 := (below_cells hb3 _ _ (by omega)).trans q0
  have q2 := (below_cells hb3 _ _ (by omega)).trans q2
  have q3 := (below_cells hb3 _ _ (by omega)).trans q3
  have KP : Hid (Kept w [(w.heap.size, 0, .int .i64 now), (w.heap.size + 1, 0, .int .i64 0), (w.heap.size + 1, 1, .slice none 0 0), (w.heap.size + 2, 0, .int .i64 id), (w.heap.size + 2, 1, .int .i64 at')] [w.heap.size + 1] w3) := ⟨⟨⟨by omega, q0⟩, ⟨by omega, (kc _ _ (by simp)).trans (by go_simp)⟩, ⟨by omega, (kc _ _ (by simp)).trans (by go_simp)⟩, ⟨by omega, q2⟩, ⟨by omega, q3⟩, trivial⟩, (fun b' hb' => (by rw [List.mem_singleton] at hb'; subst hb'; exact ⟨by omega, fun o => (kf _ _ (by simp)).trans (by go_simp)⟩)), hbw⟩
  have n0 : w.heap.size + 1 ≠ w.heap.size := by omega
  have n1 : w.heap.size ≠ w.heap.size + 1 := by omega
  have n2 : w.heap.size + 1 ≠ w.heap.size + 2 := by omega
  have n3 : w.heap.size + 2 ≠ w.heap.size + 1 := by omega
  clear kc kf
  refine region_late (S := fun w' => w'.cell? ⟨w.heap.size, 0, none⟩ = some (.int .i64 now) ∧ w'.cell? ⟨w.heap.size + 2, 0, none⟩ = some (.int .i64 id) ∧ w'.cell? ⟨w.heap.size + 2, 1, none⟩ = some (.int .i64 at')) 9 (by kernel_rfl) (⟨by go_simp, by go_simp, by go_simp⟩) (fun hS => ?_)
  refine late_take (i := 0) (v := ?_) rfl (by kernel_rfl) (by kernel_rfl) (by kernel_rfl) (by kernel_rfl) (fun _ _ _ h => h) (Or.inl ⟨by rfl, ?_⟩) (by assumption) ?_
  rotate_left 1
  · (intro w' hSw; (try dsimp only at hSw); go_simp; try with_reducible rfl)
  try simp only [Act.put, List.setIfInBounds_toArray, List.set_cons_zero, List.set_cons_succ, List.getElem_toArray, List.getElem_cons_succ, List.getElem_cons_zero]
  refine late_take (i := 1) (v := ?_) rfl (by kernel_rfl) (by kernel_rfl) (by kernel_rfl) (by kernel_rfl) (fun _ _ _ h => h) (Or.inl ⟨by rfl, ?_⟩) (by assumption) ?_
  rotate_left 1
  · (intro w' hSw; (try dsimp only at hSw); go_simp; try with_reducible rfl)
  try simp only [Act.put, List.setIfInBounds_toArray, List.set_cons_zero, List.set_cons_succ, List.getElem_toArray, List.getElem_cons_succ, List.getElem_cons_zero]
  refine late_take (i := 2) (v := ?_) rfl (by kernel_rfl) (by kernel_rfl) (by kernel_rfl) (by kernel_rfl) (fun _ _ _ h => h) (Or.inl ⟨by rfl, ?_⟩) (by assumption) ?_
  rotate_left 1
  · (intro w' hSw; (try dsimp only at hSw); go_simp; try with_reducible rfl)
  try simp only [Act.put, List.setIfInBounds_toArray, List.set_cons_zero, List.set_cons_succ, List.getElem_toArray, List.getElem_cons_succ, List.getElem_cons_zero]
  refine late_take (i := 3) (v := ?_) rfl (by kernel_rfl) (by kernel_rfl) (by kernel_rfl) (by kernel_rfl) (fun _ _ _ h => h) (Or.inl ⟨by rfl, ?_⟩) (by assumption) ?_
  rotate_left 1
  · (intro w' hSw; (try dsimp only at hSw); go_simp; try with_reducible rfl)
  try simp only [Act.put, List.setIfInBounds_toArray, List.set_cons_zero, List.set_cons_succ, List.getElem_toArray, List.getElem_cons_succ, List.getElem_cons_zero]
  refine late_one (i := 4) (by kernel_rfl) rfl (fun K hK => ?_)
  go_simp
  refine hK.out _ _ (have k' := below_cells (w := w3) (w' := (w3.drew.alloc (.cells #[.int .i64 id, .int .i64 at'] 87))) (by go_grown); ⟨(k' _ _ (by omega)).trans q0, (k' _ _ (by omega)).trans q2, (k' _ _ (by omega)).trans q3⟩) (fun hS => ?_)
  try simp only [Act.put, List.setIfInBounds_toArray, List.set_cons_zero, List.set_cons_succ, List.getElem_toArray, List.getElem_cons_succ, List.getElem_cons_zero]
  refine late_one (i := 5) (by kernel_rfl) rfl (fun K hK => ?_)
  rw [if_pos (by rfl)]
  refine wp_append_own _ _ _ 34 rfl w2'.heap.size 87 i0 _ 2 16 Try.underlying34 hi hz0 hz1 hz2 rfl (by decide) _ _ _ rfl (hown.drew.alloc _) ⟨w3.heap.size, 0, none⟩ 1 1 [.int .i64 id, .int .i64 at'] rfl rfl (two_news (by go_simp) (by go_simp)) (flat_one' [(id, at')]) (by have := HLl.out; unfold maxLen; omega) (by have := HLl.out; omega) (by simp; omega) ?_
  intro v1 wx hown1 hgr1 hnil1
  obtain ⟨a1, c1', rfl⟩ := own_slice hown1
  have hno : OnlyO (Value.slice ua L.length uc).ownBlock w3 wx := OnlyO.trans (OnlyO.of_below (by go_grown)) (OnlyO.of_grown hgr1)
  have K1 := KP.out.onlyO hno (fun j e' => by have := (hown.lt j e').1; omega) (fun c hc e' => by simp only [List.mem_cons, List.not_mem_nil, or_false] at hc; have u := (hown.lt _ e').1; rcases hc with rfl | rfl | rfl | rfl | rfl <;> (simp only at u; omega)) (fun b hb e' => by simp only [List.mem_cons, List.not_mem_nil, or_false] at hb; have u := (hown.lt _ e').1; subst hb; omega)
  have hx1 := hno.size
  have hsort : Calls Try.prog 72 #[.slice a1 (L.length + 1) c1', .func (.func 73) #[] #[]] wx (SortPost byT (L ++ [(id, at')]) wx) := by
    have r1 : wx.ownsRow w2'.heap.size 87 2 (.slice a1 (L.length + 1) c1') (L ++ [(id, at')]).length (flat (L ++ [(id, at')])) := by rw [flat_append, List.length_append]; exact hown1
    have k := sorted_any swo_time byTime_is c1' (row_smp r1).2 (by rw [List.length_append]; have := HLl.out; simp; omega)
    rw [List.length_append] at k
    exact k
  have ⟨⟨_, q01⟩, _, _, ⟨_, q21⟩, ⟨_, q31⟩, _⟩ := K1.cells
  refine hK.out _ _ ⟨q01, q21, q31⟩ (fun hS => ?_)
  try simp only [Act.put, List.setIfInBounds_toArray, List.set_cons_zero, List.set_cons_succ, List.getElem_toArray, List.getElem_cons_succ, List.getElem_cons_zero]
  refine late_one (i := 6) (by kernel_rfl) rfl (fun K hK => ?_)
  go_simp
  (refine hsort.mono ?_; rintro e wy ⟨sa, sn, sc, ys, rfl, hsn, hfw, _, hperm, hord, hby⟩; have K2 := K1.next hby; have HY : Hid (ys.Perm (L ++ [(id, at')]) ∧ InOrd byT ys) := ⟨hperm, hord⟩; have FF : Hid (FW wy wx.heap.size (.slice sa sn sc) ys) := hfw; clear hfw hperm hord hsort hsn; have ⟨⟨_, q02⟩, ⟨_, r02⟩, ⟨_, r12⟩, ⟨_, q22⟩, ⟨_, q32⟩, _⟩ := K2.cells; have rf2 := (K2.free _ (List.mem_singleton.2 rfl)).2; have hS2 := And.intro q02 (And.intro q22 q32))
  refine hK.out _ _ (by assumption) (fun _ => ?_)
  try simp only [Act.put, List.setIfInBounds_toArray, List.set_cons_zero, List.set_cons_succ, List.getElem_toArray, List.getElem_cons_succ, List.getElem_cons_zero]
  refine late_take (i := 7) (v := ?_) rfl (by kernel_rfl) (by kernel_rfl) (by kernel_rfl) (by kernel_rfl) (fun _ _ _ h => h) (Or.inl ⟨by rfl, ?_⟩) (by assumption) ?_
  rotate_left 1
  · (intro w' hSw; (try dsimp only at hSw); go_simp; try with_reducible rfl)
  try simp only [Act.put, List.setIfInBounds_toArray, List.set_cons_zero, List.set_cons_succ, List.getElem_toArray, List.getElem_cons_succ, List.getElem_cons_zero]
  refine late_one (i := 8) (by kernel_rfl) rfl (fun K hK => ?_)
  go_simp
  refine hK.out _ _ (⟨by go_simp, by go_simp, by go_simp⟩) (fun hS => ?_)
  try simp only [Act.put, List.setIfInBounds_toArray, List.set_cons_zero, List.set_cons_succ, List.getElem_toArray, List.getElem_cons_succ, List.getElem_cons_zero]
  refine late_last (by kernel_rfl) rfl (by kernel_rfl) (fun K hK => ?_)
  go_simp
  refine hK.out _ _ ?_
  try simp only [Act.put, List.setIfInBounds_toArray, List.set_cons_zero, List.set_cons_succ, List.getElem_toArray, List.getElem_cons_succ, List.getElem_cons_zero]
  go_wp2
  refine bodyPost_ret (results_two rfl _ _ _ [.int .i64 now, .slice sa sn sc] rfl (set_two (u0 := .int .i64 0) (u1 := .slice none 0 0) _ _ r02 r12) Try.underlying36 rfl (by kernel_rfl)) rfl ?_
  have e := ins_same HW.out (by rw [HL.out]; exact HY.out.1) HY.out.2
  rw [HL.out] at e
  rw [← e]
  have f1 := FF.out
  have hb7 := K2.hb
  have og1 : Only (w.heap.size + 1) wy (wy.setCell ⟨w.heap.size + 1, 0, none⟩ (.int .i64 now)) := (Only.refl (w.heap.size + 1) wy).setCell rfl _
  have og2 : Only (w.heap.size + 1) wy ((wy.setCell ⟨w.heap.size + 1, 0, none⟩ (.int .i64 now)).setCell ⟨w.heap.size + 1, 1, none⟩ (.slice sa sn sc)) := og1.setCell rfl _
  exact ⟨_, _, _, rfl, (f1.lower (by omega)).onlyO (OnlyO.of_only og2) (fun g hg e => by have := (f1.own hg).1; injection e with e; omega), hb7.trans (og2.below (by omega) hb7.size)⟩
theorem implArm_no {w : World} {now : Int} {a : Option Addr} (cap : Nat) {xs : List (Int × Int)} (id at' : Int) (h : Smp w.heap.size w a xs) (hc : xs.length ≤ cap) (hn : a = none → cap = 0) (hl : (xs.length : Int) ≤ 9223372036854775807) (hW : ¬ (WOk now xs ∧ armOk now id at' = true ∧ (withoutOf id xs).length ≠ 200)) :
    Calls Try.prog 19 #[.agg #[.int .i64 now, .slice a xs.length cap], .int .i64 id, .int .i64 at'] w (WheelPost w 0 [] false) := by
  by_cases h1 : WOk now xs
  · cases h2 : armOk now id at'
    · exact iarm_not cap id at' h hc hn h1 h2
    · by_cases h3 : (withoutOf id xs).length = 200
      · exact iarm_full cap id at' h hc hn h1 h2 h3
      · exact absurd ⟨h1, h2, h3⟩ hW
  · exact iarm_bad cap id at' h hc hn hl h1
end Go.Proofs.Ytdgefdjgpneanac

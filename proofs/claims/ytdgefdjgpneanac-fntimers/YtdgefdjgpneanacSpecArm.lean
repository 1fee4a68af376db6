/- What spec.Arm answers. -/
import Derived.Test.YtdgefdjgpneanacSpecCancel
import Derived.Test.YtdgefdjgpneanacGrpC
import Derived.Test.YtdgefdjgpneanacLate
import Derived.Deep.CutRange
namespace Go.Proofs.Ytdgefdjgpneanac
open Go.ChangeShapes Go.WideShapes Go.ChangeAt Go.RowKit
set_option maxRecDepth 100000
set_option linter.unusedVariables false
set_option linter.unusedSimpArgs false

/-- A timer put in order. -/
def insOf (L : List (Int × Int)) (x : Int × Int) : List (Int × Int) := (L.takeWhile fun y => befB y x) ++ x :: L.dropWhile fun y => befB y x
theorem ins_at {L : List (Int × Int)} {x : Int × Int} {k : Nat} (hk : k ≤ L.length) (h1 : ∀ j (hj : j < L.length), j < k → befB L[j] x = true) (h2 : ∀ (h : k < L.length), befB L[k] x = false) : insOf L x = L.take k ++ [x] ++ L.drop k := by
  have key : ∀ (L : List (Int × Int)) (k : Nat), k ≤ L.length → (∀ j (hj : j < L.length), j < k → befB L[j] x = true) → (∀ (h : k < L.length), befB L[k] x = false) → (L.takeWhile fun y => befB y x) = L.take k ∧ (L.dropWhile fun y => befB y x) = L.drop k := by
    intro L
    induction L with
    | nil => intro k hk _ _; obtain rfl : k = 0 := by simpa using hk
             exact ⟨rfl, rfl⟩
    | cons y L ih =>
      intro k hk a b
      cases k with
      | zero =>
        have hy : befB y x = false := b (by simp)
        simp [hy]
      | succ k =>
        have hy : befB y x = true := a 0 (by simp) (by omega)
        obtain ⟨e1, e2⟩ := ih k (by simpa using hk) (fun j hj hjk => a (j + 1) (by simpa using hj) (by omega)) (fun h => b (by simpa using h))
        simp [hy, e1, e2]
  obtain ⟨e1, e2⟩ := key L k hk h1 h2
  unfold insOf
  rw [e1, e2]
  simp
theorem take_flat {L : List (Int × Int)} {k : Nat} (h : k < L.length) : flat (L.take (k + 1)) = flat (L.take k) ++ flat [L[k]] := by rw [List.take_succ_eq_append_getElem h, flat_append]
/-- The zero wheel, and false. -/
def ZPost (w : World) (e : Ending) (w' : World) : Prop := e = .returned (.tuple #[.agg #[.int .i64 0, .slice none 0 0], .bool false]) ∧ Below w.heap.size w w'
/-- A wheel that was made anew and whose list is a row of its own, and a flag. -/
def OwnPost (w : World) (t : Int) (L : List (Int × Int)) (f : Bool) (e : Ending) (w' : World) : Prop := ∃ a n c, e = .returned (.tuple #[.agg #[.int .i64 t, .slice a n c], .bool f]) ∧ w'.ownsRow w.heap.size 87 2 (.slice a n c) L.length (flat L) ∧ Below w.heap.size w w'
theorem OwnPost.wheel {w : World} {t : Int} {L : List (Int × Int)} {f : Bool} {e : Ending} {w' : World} (h : OwnPost w t L f e w') : WheelPost w t L f e w' := by
  obtain ⟨a, n, c, he, ho, hb⟩ := h
  exact ⟨a, n, c, he, own_fv ho, hb⟩
theorem row_low {w : World} {b b' : Nat} {e : TypeId} {s n : Nat} {v : Value} {xs : List Value} (h : w.ownsRow b e s v n xs) (hb : b' ≤ b) : w.ownsRow b' e s v n xs :=
  ⟨h.1, h.2.imp id (fun ⟨g, cap, cur, e1, hg, r⟩ => ⟨g, cap, cur, e1, Nat.le_trans hb hg, r⟩)⟩
def armOk (now id at' : Int) : Bool := (idB id && timeB at') && decide (now < at')
theorem fill_tail {w : World} {g n : Nat} {M : List (Int × Int)} (f : Fill w g n M M.length) (d : Nat) : ∀ j v, (flat (M.drop d))[j]? = some v → w.cell? ((⟨g, d * 2, none⟩ : Addr).add j) = some v := by
  intro j v hv
  have hj : j < (flat (M.drop d)).length := (List.getElem?_eq_some_iff.1 hv).1
  rw [flat_length, List.length_drop] at hj
  have e : (⟨g, d * 2, none⟩ : Addr).add j = ⟨g, d * 2 + j, none⟩ := by unfold Addr.add; split <;> simp_all
  rw [e]
  have hi : j / 2 < (M.drop d).length := by rw [List.length_drop]; omega
  obtain ⟨h0, h1⟩ := flat_get (M.drop d) (j / 2) hi
  have hM : d + j / 2 < M.length := by omega
  obtain ⟨c0, c1⟩ := f.got (d + j / 2) hM hM
  rw [List.getElem_drop] at h0 h1
  rcases Nat.mod_two_eq_zero_or_one j with h | h
  · rw [show j / 2 * 2 = j by omega, hv] at h0
    rw [h0, show d * 2 + j = (d + j / 2) * 2 by omega]
    exact c0
  · rw [show j / 2 * 2 + 1 = j by omega, hv] at h1
    rw [h1, show d * 2 + j = (d + j / 2) * 2 + 1 by omega]
    exact c1
set_option maxHeartbeats 2000000 in
theorem specArm_bad {w : World} {now : Int} {a : Option Addr} (cap : Nat) {xs : List (Int × Int)} (id at' : Int) (h : Smp w.heap.size w a xs) (hl : (xs.length : Int) ≤ 9223372036854775807) (hW : ¬ WOk now xs) :
    Calls Try.prog 20 #[.agg #[.int .i64 now, .slice a xs.length cap], .int .i64 id, .int .i64 at'] w (ZPost w) := by
  go_enter Try.func20, Try.ntmps20
  go_wp2_with (first
    | (go_at_call 28; refine (specWheelOk_no cap (h.here (by go_grown)) hl hW).mono ?_; rintro e w2 ⟨rfl, hb2⟩; have kc := below_cells hb2; have kf := below_frozens hb2; have hbw := startw hb2; have y1 := sizew hb2; have zb := hb2.size))
  have d0 : w2.cell? ⟨w.heap.size + 1, 0, none⟩ = some (.int .i64 0) := (kc _ _ (by simp)).trans (by go_simp)
  have d1 : w2.cell? ⟨w.heap.size + 1, 1, none⟩ = some (.slice none 0 0) := (kc _ _ (by simp)).trans (by go_simp)
  refine bodyPost_ret (results_two rfl _ _ _ [.int .i64 0, .slice none 0 0] rfl (set_two (u0 := .int .i64 0) (u1 := .slice none 0 0) _ _ d0 d1) Try.underlying36 rfl (by kernel_rfl)) rfl ?_
  exact ⟨rfl, by go_grown⟩
set_option maxHeartbeats 2000000 in
theorem specArm_id {w : World} {now : Int} {a : Option Addr} (cap : Nat) {xs : List (Int × Int)} (id at' : Int) (h : Smp w.heap.size w a xs) (hW : WOk now xs) (hI : idB id = false) :
    Calls Try.prog 20 #[.agg #[.int .i64 now, .slice a xs.length cap], .int .i64 id, .int .i64 at'] w (ZPost w) := by
  have hl := hW.2.1
  have HW : Hid (WOk now xs) := hW
  clear hW
  go_enter Try.func20, Try.ntmps20
  go_wp2_with (first
    | (go_at_call 28; refine (specWheelOk_yes cap (h.here (by go_grown)) HW.out).mono ?_; rintro e w2 ⟨rfl, hb2⟩; have kc := below_cells hb2; have kf := below_frozens hb2; have hbw := startw hb2; have y1 := sizew hb2; have zb := hb2.size)
    | (go_at_call 74; refine (in_any _ _ _ _).mono ?_; rintro e w2 ⟨rfl, rfl⟩; rw [show (decide (0 ≤ id) && decide (id ≤ 1000000)) = idB id from rfl, hI]))
  have d0 : w2.cell? ⟨w.heap.size + 1, 0, none⟩ = some (.int .i64 0) := (kc _ _ (by simp)).trans (by go_simp)
  have d1 : w2.cell? ⟨w.heap.size + 1, 1, none⟩ = some (.slice none 0 0) := (kc _ _ (by simp)).trans (by go_simp)
  refine bodyPost_ret (results_two rfl _ _ _ [.int .i64 0, .slice none 0 0] rfl (set_two (u0 := .int .i64 0) (u1 := .slice none 0 0) _ _ d0 d1) Try.underlying36 rfl (by kernel_rfl)) rfl ?_
  exact ⟨rfl, by go_grown⟩
set_option maxHeartbeats 2000000 in
theorem specArm_time {w : World} {now : Int} {a : Option Addr} (cap : Nat) {xs : List (Int × Int)} (id at' : Int) (h : Smp w.heap.size w a xs) (hW : WOk now xs) (hI : idB id = true) (hT : timeB at' = false) :
    Calls Try.prog 20 #[.agg #[.int .i64 now, .slice a xs.length cap], .int .i64 id, .int .i64 at'] w (ZPost w) := by
  have hl := hW.2.1
  have HW : Hid (WOk now xs) := hW
  clear hW
  go_enter Try.func20, Try.ntmps20
  go_wp2_with (first
    | (go_at_call 28; refine (specWheelOk_yes cap (h.here (by go_grown)) HW.out).mono ?_; rintro e w2 ⟨rfl, hb2⟩; have kc := below_cells hb2; have kf := below_frozens hb2; have hbw := startw hb2; have y1 := sizew hb2; have zb := hb2.size)
    | (go_at_call 74; refine (in_any _ _ _ _).mono ?_; rintro e w2 ⟨rfl, rfl⟩; rw [show (decide (0 ≤ id) && decide (id ≤ 1000000)) = idB id from rfl, hI])
    | (go_at_call 56; refine (time_any _ _).mono ?_; rintro e w2 ⟨rfl, rfl⟩; rw [hT]))
  have d0 : w2.cell? ⟨w.heap.size + 1, 0, none⟩ = some (.int .i64 0) := (kc _ _ (by simp)).trans (by go_simp)
  have d1 : w2.cell? ⟨w.heap.size + 1, 1, none⟩ = some (.slice none 0 0) := (kc _ _ (by simp)).trans (by go_simp)
  refine bodyPost_ret (results_two rfl _ _ _ [.int .i64 0, .slice none 0 0] rfl (set_two (u0 := .int .i64 0) (u1 := .slice none 0 0) _ _ d0 d1) Try.underlying36 rfl (by kernel_rfl)) rfl ?_
  exact ⟨rfl, by go_grown⟩
set_option maxHeartbeats 2000000 in
theorem specArm_past {w : World} {now : Int} {a : Option Addr} (cap : Nat) {xs : List (Int × Int)} (id at' : Int) (h : Smp w.heap.size w a xs) (hW : WOk now xs) (hI : idB id = true) (hT : timeB at' = true) (hP : at' ≤ now) :
    Calls Try.prog 20 #[.agg #[.int .i64 now, .slice a xs.length cap], .int .i64 id, .int .i64 at'] w (ZPost w) := by
  have hl := hW.2.1
  have HW : Hid (WOk now xs) := hW
  clear hW
  go_enter Try.func20, Try.ntmps20
  go_wp2_with (first
    | (go_at_call 28; refine (specWheelOk_yes cap (h.here (by go_grown)) HW.out).mono ?_; rintro e w2 ⟨rfl, hb2⟩; have kc := below_cells hb2; have kf := below_frozens hb2; have hbw := startw hb2; have y1 := sizew hb2; have zb := hb2.size)
    | (go_at_call 74; refine (in_any _ _ _ _).mono ?_; rintro e w2 ⟨rfl, rfl⟩; rw [show (decide (0 ≤ id) && decide (id ≤ 1000000)) = idB id from rfl, hI])
    | (go_at_call 56; refine (time_any _ _).mono ?_; rintro e w2 ⟨rfl, rfl⟩; rw [hT]))
  have d0 : w2.cell? ⟨w.heap.size + 1, 0, none⟩ = some (.int .i64 0) := (kc _ _ (by simp)).trans (by go_simp)
  have d1 : w2.cell? ⟨w.heap.size + 1, 1, none⟩ = some (.slice none 0 0) := (kc _ _ (by simp)).trans (by go_simp)
  refine bodyPost_ret (results_two rfl _ _ _ [.int .i64 0, .slice none 0 0] rfl (set_two (u0 := .int .i64 0) (u1 := .slice none 0 0) _ _ d0 d1) Try.underlying36 rfl (by kernel_rfl)) rfl ?_
  exact ⟨rfl, by go_grown⟩
set_option maxHeartbeats 2000000 in
theorem specArm_full {w : World} {now : Int} {a : Option Addr} (cap : Nat) {xs : List (Int × Int)} (id at' : Int) (h : Smp w.heap.size w a xs) (hW : WOk now xs) (hI : idB id = true) (hT : timeB at' = true) (hP : now < at') (hF : (withoutOf id xs).length = 200) :
    Calls Try.prog 20 #[.agg #[.int .i64 now, .slice a xs.length cap], .int .i64 id, .int .i64 at'] w (ZPost w) := by
  have hl := hW.2.1
  have HW : Hid (WOk now xs) := hW
  clear hW
  obtain ⟨L, hL⟩ : ∃ L, withoutOf id xs = L := ⟨_, rfl⟩
  have hLl : L.length ≤ 200 := Nat.le_trans (hL ▸ without_le id xs) hl
  have HL : Hid (withoutOf id xs = L) := hL
  rw [hL] at hF
  have hF' : (L.length : Int) = 200 := by omega
  have HLl : Hid (L.length = 200) := hF
  clear hL hLl hF
  go_enter Try.func20, Try.ntmps20
  go_wp2_with (first
    | (go_at_call 28; refine (specWheelOk_yes cap (h.here (by go_grown)) HW.out).mono ?_; rintro e w2 ⟨rfl, hb2⟩; have kc := below_cells hb2; have kf := below_frozens hb2; have hbw := startw hb2; have y1 := sizew hb2; have zb := hb2.size)
    | (go_at_call 74; refine (in_any _ _ _ _).mono ?_; rintro e w2 ⟨rfl, rfl⟩; rw [show (decide (0 ≤ id) && decide (id ≤ 1000000)) = idB id from rfl, hI])
    | (go_at_call 56; refine (time_any _ _).mono ?_; rintro e w2 ⟨rfl, rfl⟩; rw [hT])
    | (go_at_call 75; refine (specWithout_any cap id (h.here hbw) hl).mono ?_; rw [HL.out]; rintro e w3 ⟨g, c, rfl, hg0, hg1, f, hc, hb3⟩; have kc := fun b o h => (below_cells hb3 b o (Nat.lt_of_lt_of_le h zb)).trans (kc b o h); have kf := fun b o h => (below_frozens hb3 b o (Nat.lt_of_lt_of_le h zb)).trans (kf b o h); have hbw := below_step hbw hb3; have y1 := Nat.lt_of_lt_of_le y1 hb3.size; have c00 : w3.cell? ⟨w.heap.size, 0, none⟩ = some (.int .i64 now) := (kc _ _ (by simp; omega)).trans (by go_simp); have y0 : w.heap.size < w3.heap.size := (by omega); have nz : w3.heap.size ≠ w.heap.size := (by omega); have nz2 : w.heap.size ≠ w3.heap.size := (by omega)))
  have d0 : w3.cell? ⟨w.heap.size + 1, 0, none⟩ = some (.int .i64 0) := (kc _ _ (by simp)).trans (by go_simp)
  have d1 : w3.cell? ⟨w.heap.size + 1, 1, none⟩ = some (.slice none 0 0) := (kc _ _ (by simp)).trans (by go_simp)
  refine bodyPost_ret (results_two rfl _ _ _ [.int .i64 0, .slice none 0 0] rfl (set_two (u0 := .int .i64 0) (u1 := .slice none 0 0) _ _ d0 d1) Try.underlying36 rfl (by kernel_rfl)) rfl ?_
  exact ⟨rfl, by go_grown⟩
theorem held4 {w w2 : World} {b c o o' : Nat} {u u' v v' : Value} (h : (w.cell? ⟨b, o, none⟩ = some u ∧ w.cell? ⟨b, o', none⟩ = some u') ∧ w.cell? ⟨c, 0, none⟩ = some v ∧ w.cell? ⟨c, 1, none⟩ = some v') (hb : Below w.heap.size w w2) (h0 : b < w.heap.size) (h1 : c < w.heap.size) :
    (w2.cell? ⟨b, o, none⟩ = some u ∧ w2.cell? ⟨b, o', none⟩ = some u') ∧ w2.cell? ⟨c, 0, none⟩ = some v ∧ w2.cell? ⟨c, 1, none⟩ = some v' :=
  have k := below_cells hb
  ⟨⟨(k _ _ h0).trans h.1.1, (k _ _ h0).trans h.1.2⟩, (k _ _ h1).trans h.2.1, (k _ _ h1).trans h.2.2⟩
set_option maxRecDepth 100000 in
set_option maxHeartbeats 8000000 in
theorem specArm_own {w : World} {now : Int} {a : Option Addr} (cap : Nat) {xs : List (Int × Int)} (id at' : Int) (h : Smp w.heap.size w a xs) (hW : WOk now xs) (hI : idB id = true) (hT : timeB at' = true) (hP : now < at') (hF : (withoutOf id xs).length ≠ 200) :
    Calls Try.prog 20 #[.agg #[.int .i64 now, .slice a xs.length cap], .int .i64 id, .int .i64 at'] w (OwnPost w now (insOf (withoutOf id xs) (id, at')) true) := by
  have hl := hW.2.1
  have HW : Hid (WOk now xs) := hW
  clear hW
  obtain ⟨L, hL⟩ : ∃ L, withoutOf id xs = L := ⟨_, rfl⟩
  have hLl : L.length ≤ 200 := Nat.le_trans (hL ▸ without_le id xs) hl
  have HL : Hid (withoutOf id xs = L) := hL
  have hP' : decide (at' ≤ now) = false := decide_eq_false (by omega)
  rw [hL] at hF
  rw [hL]
  have hF' : ((L.length : Int) == 200) = false := by simp; omega
  have HLl : Hid (L.length < 200) := (show L.length < 200 by omega)
  clear hL hLl hF
  obtain ⟨i0, hi, hz0, hz1, hz2⟩ := info_parts info_tim
  go_enter Try.func20, Try.ntmps20
  go_wp2_with (first
    | (go_at_call 28; refine (specWheelOk_yes cap (h.here (by go_grown)) HW.out).mono ?_; rintro e w2 ⟨rfl, hb2⟩; have kc := below_cells hb2; have kf := below_frozens hb2; have hbw := startw hb2; have y1 := sizew hb2; have zb := hb2.size)
    | (go_at_call 74; refine (in_any _ _ _ _).mono ?_; rintro e w2 ⟨rfl, rfl⟩; rw [show (decide (0 ≤ id) && decide (id ≤ 1000000)) = idB id from rfl, hI])
    | (go_at_call 56; refine (time_any _ _).mono ?_; rintro e w2 ⟨rfl, rfl⟩; rw [hT])
    | (go_at_call 75; refine (specWithout_any cap id (h.here hbw) hl).mono ?_; rw [HL.out]; rintro e w3 ⟨g, c, rfl, hg0, hg1, f, hc, hb3⟩; have kc := fun b o h => (below_cells hb3 b o (Nat.lt_of_lt_of_le h zb)).trans (kc b o h); have kf := fun b o h => (below_frozens hb3 b o (Nat.lt_of_lt_of_le h zb)).trans (kf b o h); have hbw := below_step hbw hb3; have y1 := Nat.lt_of_lt_of_le y1 hb3.size; have c00 : w3.cell? ⟨w.heap.size, 0, none⟩ = some (.int .i64 now) := (kc _ _ (by simp; omega)).trans (by go_simp); have y0 : w.heap.size < w3.heap.size := (by omega); have nz : w3.heap.size ≠ w.heap.size := (by omega); have nz2 : w.heap.size ≠ w3.heap.size := (by omega)))
  have st : Kept w [(w.heap.size + 1, 0, .int .i64 0), (w.heap.size + 1, 1, .slice none 0 0), (w3.heap.size, 0, .int .i64 id), (w3.heap.size, 1, .int .i64 at'), (w3.heap.size + 1, 0, .int .i64 now), (w3.heap.size + 1, 1, .slice none 0 0)] [w.heap.size + 1, w3.heap.size + 1] ((w3.alloc (.cells #[.int .i64 id, .int .i64 at'] 87)).alloc (.cells #[.int .i64 now, .slice none 0 0] 36)) := by
    have e : Below w3.heap.size w3 ((w3.alloc (.cells #[.int .i64 id, .int .i64 at'] 87)).alloc (.cells #[.int .i64 now, .slice none 0 0] 36)) := by go_grown
    have k := below_cells e
    have kz := below_frozens e
    refine ⟨⟨⟨by simp; omega, (k _ _ (by omega)).trans ((kc _ _ (by simp)).trans (by go_simp))⟩, ⟨by simp; omega, (k _ _ (by omega)).trans ((kc _ _ (by simp)).trans (by go_simp))⟩, ⟨by simp; omega, by go_simp⟩, ⟨by simp; omega, by go_simp⟩, ⟨by simp, by go_simp⟩, ⟨by simp, by go_simp⟩, trivial⟩, ?_, below_step hbw e⟩
    intro b hb
    simp only [List.mem_cons, List.not_mem_nil, or_false] at hb
    rcases hb with rfl | rfl
    · exact ⟨by simp; omega, fun o => (kz _ _ (by omega)).trans ((kf _ _ (by simp)).trans (by go_simp))⟩
    · exact ⟨by simp, fun o => by go_simp⟩
  have f0 : Fill ((w3.alloc (.cells #[.int .i64 id, .int .i64 at'] 87)).alloc (.cells #[.int .i64 now, .slice none 0 0] 36)) g L.length L L.length := f.mono (by go_grown) hg1
  clear kc kf zb hb2
  go_loopw [11] (fun i wr => ∃ (k : Nat) (ua : Option Addr) (uc : Nat), i = .int .i64 k ∧ k ≤ L.length ∧ Kept w [(w.heap.size + 1, 0, .int .i64 0), (w.heap.size + 1, 1, .slice none 0 0), (w3.heap.size, 0, .int .i64 id), (w3.heap.size, 1, .int .i64 at'), (w3.heap.size + 1, 0, .int .i64 now), (w3.heap.size + 1, 1, .slice ua k uc)] [w.heap.size + 1, w3.heap.size + 1] wr ∧ Fill wr g L.length L L.length ∧ wr.ownsRow (w3.heap.size + 2) 87 2 (.slice ua k uc) k (flat (L.take k)) ∧ (∀ j (hj : j < L.length), j < k → befB L[j] (id, at') = true) ∧ w3.heap.size + 2 ≤ wr.heap.size) (fun i _ => L.length - (intOf i).toNat)
  case atStart => exact ⟨0, none, 0, rfl, by omega, st, f0, World.ownsRow_nil _ _ _ _, fun j hj h => by omega, by simp⟩
  case round =>
    clear st f0 f
    obtain ⟨k, ua, uc, rfl, hk, KP, f, hown, hbef, hz⟩ := hrel
    have ⟨⟨z0, r0⟩, ⟨z1, r1⟩, ⟨z2, t0⟩, ⟨z3, t1⟩, ⟨z4, o0⟩, ⟨z5, o1⟩, _⟩ := KP.cells
    have hbw := KP.hb
    by_cases hlt : k < L.length
    · obtain ⟨e0, e1⟩ := f.got k hlt hlt
      have hlt' : (k : Int) < (L.length : Int) := by omega
      obtain ⟨x, hx⟩ : ∃ x, L[k] = x := ⟨_, rfl⟩
      rw [hx] at e0 e1
      obtain ⟨p, q⟩ := x
      have HX : Hid (L[k] = (p, q)) := hx
      clear hx
      simp only at e0 e1
      obtain ⟨bf, hbf⟩ : ∃ bf, befB (p, q) (id, at') = bf := ⟨_, rfl⟩
      have HBF : Hid (befB (p, q) (id, at') = bf) := hbf
      clear hbf
      have hgr : g < wr.heap.size := by omega
      have hkb : (k : Int) < 200 := by have := HLl.out; omega
      go_wp2
      refine wp_region_held_drew (S := fun w' => (w'.cell? ⟨g, k * 2, none⟩ = some (.int .i64 p) ∧ w'.cell? ⟨g, k * 2 + 1, none⟩ = some (.int .i64 q)) ∧ w'.cell? ⟨w3.heap.size, 0, none⟩ = some (.int .i64 id) ∧ w'.cell? ⟨w3.heap.size, 1, none⟩ = some (.int .i64 at')) (by kernel_rfl) (⟨⟨by go_simp, by go_simp⟩, by go_simp, by go_simp⟩) (fun hS => ?_)
      refine wpAnyH_take (i := 0) (v := ?_) rfl (by kernel_rfl) (by kernel_rfl) (by kernel_rfl) (fun _ _ _ h => h) (Or.inl ⟨by rfl, ?_⟩) (by assumption) ?_
      rotate_left 1
      · (intro w' hSw; (try dsimp only at hSw); go_simp; try with_reducible rfl)
      try simp only [Act.put, List.setIfInBounds_toArray, List.set_cons_zero, List.set_cons_succ, List.getElem_toArray, List.getElem_cons_succ, List.getElem_cons_zero]
      refine wpAnyH_take (i := 1) (v := ?_) rfl (by kernel_rfl) (by kernel_rfl) (by kernel_rfl) (fun _ _ _ h => h) (Or.inl ⟨by rfl, ?_⟩) (by assumption) ?_
      rotate_left 1
      · (intro w' hSw; (try dsimp only at hSw); go_simp; try with_reducible rfl)
      try simp only [Act.put, List.setIfInBounds_toArray, List.set_cons_zero, List.set_cons_succ, List.getElem_toArray, List.getElem_cons_succ, List.getElem_cons_zero]
      refine wpAnyH_take (i := 2) (v := ?_) rfl (by kernel_rfl) (by kernel_rfl) (by kernel_rfl) (fun _ _ _ h => h) (Or.inl ⟨by rfl, ?_⟩) (by assumption) ?_
      rotate_left 1
      · (intro w' hSw; (try dsimp only at hSw); go_simp; try with_reducible rfl)
      try simp only [Act.put, List.setIfInBounds_toArray, List.set_cons_zero, List.set_cons_succ, List.getElem_toArray, List.getElem_cons_succ, List.getElem_cons_zero]
      refine wpAnyH_take (i := 3) (v := ?_) rfl (by kernel_rfl) (by kernel_rfl) (by kernel_rfl) (fun _ _ _ h => h) (Or.inl ⟨by rfl, ?_⟩) (by assumption) ?_
      rotate_left 1
      · (intro w' hSw; (try dsimp only at hSw); go_simp; try with_reducible rfl)
      try simp only [Act.put, List.setIfInBounds_toArray, List.set_cons_zero, List.set_cons_succ, List.getElem_toArray, List.getElem_cons_succ, List.getElem_cons_zero]
      refine wpAnyH_take (i := 4) (v := ?_) rfl (by kernel_rfl) (by kernel_rfl) (by kernel_rfl) (fun _ _ _ h => h) (Or.inl ⟨by rfl, ?_⟩) (by assumption) ?_
      rotate_left 1
      · (intro w' hSw; (try dsimp only at hSw); go_simp; try with_reducible rfl)
      try simp only [Act.put, List.setIfInBounds_toArray, List.set_cons_zero, List.set_cons_succ, List.getElem_toArray, List.getElem_cons_succ, List.getElem_cons_zero]
      refine wpAnyH_take (i := 5) (v := ?_) rfl (by kernel_rfl) (by kernel_rfl) (by kernel_rfl) (fun _ _ _ h => h) (Or.inl ⟨by rfl, ?_⟩) (by assumption) ?_
      rotate_left 1
      · (intro w' hSw; (try dsimp only at hSw); go_simp; try with_reducible rfl)
      try simp only [Act.put, List.setIfInBounds_toArray, List.set_cons_zero, List.set_cons_succ, List.getElem_toArray, List.getElem_cons_succ, List.getElem_cons_zero]
      refine wpAnyH_take (i := 6) (v := ?_) rfl (by kernel_rfl) (by kernel_rfl) (by kernel_rfl) (fun _ _ _ h => h) (Or.inl ⟨by rfl, ?_⟩) (by assumption) ?_
      rotate_left 1
      · (intro w' hSw; (try dsimp only at hSw); go_simp; try with_reducible rfl)
      try simp only [Act.put, List.setIfInBounds_toArray, List.set_cons_zero, List.set_cons_succ, List.getElem_toArray, List.getElem_cons_succ, List.getElem_cons_zero]
      refine wpAnyH_take (i := 7) (v := ?_) rfl (by kernel_rfl) (by kernel_rfl) (by kernel_rfl) (fun _ _ _ h => h) (Or.inl ⟨by rfl, ?_⟩) (by assumption) ?_
      rotate_left 1
      · (intro w' hSw; (try dsimp only at hSw); go_simp; try with_reducible rfl)
      try simp only [Act.put, List.setIfInBounds_toArray, List.set_cons_zero, List.set_cons_succ, List.getElem_toArray, List.getElem_cons_succ, List.getElem_cons_zero]
      refine wpAnyH_take (i := 8) (v := ?_) rfl (by kernel_rfl) (by kernel_rfl) (by kernel_rfl) (fun _ _ _ h => h) (Or.inl ⟨by rfl, ?_⟩) (by assumption) ?_
      rotate_left 1
      · (intro w' hSw; (try dsimp only at hSw); go_simp; try with_reducible rfl)
      try simp only [Act.put, List.setIfInBounds_toArray, List.set_cons_zero, List.set_cons_succ, List.getElem_toArray, List.getElem_cons_succ, List.getElem_cons_zero]
      refine wpAnyH_take (i := 9) (v := ?_) rfl (by kernel_rfl) (by kernel_rfl) (by kernel_rfl) (fun _ _ _ h => h) (Or.inl ⟨by rfl, ?_⟩) (by assumption) ?_
      rotate_left 1
      · (intro w' hSw; (try dsimp only at hSw); go_simp; try with_reducible rfl)
      try simp only [Act.put, List.setIfInBounds_toArray, List.set_cons_zero, List.set_cons_succ, List.getElem_toArray, List.getElem_cons_succ, List.getElem_cons_zero]
      refine wpAnyH_ready (rs := [10]) (by kernel_rfl) (by simp) (AllReadyH.cons rfl (fun K hK => ?_) AllReadyH.nil)
      go_simp
      (refine (before_any _ _ _ _ _).mono ?_; rintro e wb ⟨rfl, hbb⟩; have hS := held4 hS hbb (by simp; omega) (by simp; omega); have hbr := below_step (w := wr) (by go_grown) hbb; rw [HBF.out]; simp only [])
      refine hK.out _ _ (by assumption) (fun _ => ?_)
      try simp only [Act.put, List.setIfInBounds_toArray, List.set_cons_zero, List.set_cons_succ, List.getElem_toArray, List.getElem_cons_succ, List.getElem_cons_zero]
      refine wpAnyH_take (i := 11) (v := ?_) rfl (by kernel_rfl) (by kernel_rfl) (by kernel_rfl) (fun _ _ _ h => h) (Or.inl ⟨by rfl, ?_⟩) (by assumption) ?_
      rotate_left 1
      · (intro w' hSw; (try dsimp only at hSw); go_simp; try with_reducible rfl)
      try simp only [Act.put, List.setIfInBounds_toArray, List.set_cons_zero, List.set_cons_succ, List.getElem_toArray, List.getElem_cons_succ, List.getElem_cons_zero]
      refine wpAnyH_done (by kernel_rfl) ?_ _
      cases bf
      · have KP := KP.next hbr
        have hown := row_next hown hbr
        have f := f.mono hbr hgr
        have hins : Hid (insOf L (id, at') = L.take k ++ [(id, at')] ++ L.drop k) := ins_at hk hbef (fun _ => by rw [HX.out]; exact HBF.out)
        have hzb : w3.heap.size + 2 ≤ wb.heap.size := Nat.le_trans hz hbr.size
        clear z0 r0 z1 r1 z2 t0 z3 t1 z4 o0 z5 o1
        have ⟨⟨z0, r0⟩, ⟨z1, r1⟩, ⟨z2, t0⟩, ⟨z3, t1⟩, ⟨z4, o0⟩, ⟨z5, o1⟩, _⟩ := KP.cells
        go_wp2
        have hkl : (k : Int) ≤ (L.length : Int) := by omega
        have hkc : (L.length : Int) ≤ (c : Int) := by omega
        have hk0 : (0 : Int) ≤ (k : Int) := by omega
        by_cases hck : c = k
        · exfalso; omega
        · refine region_late (S := fun w' => w'.cell? ⟨w3.heap.size + 1, 1, none⟩ = some (.slice ua k uc) ∧ w'.cell? ⟨w3.heap.size, 0, none⟩ = some (.int .i64 id) ∧ w'.cell? ⟨w3.heap.size, 1, none⟩ = some (.int .i64 at')) 12 (by kernel_rfl) (⟨by go_simp, by go_simp, by go_simp⟩) (fun hS => ?_)
          refine late_take (i := 0) (v := ?_) rfl (by kernel_rfl) (by kernel_rfl) (by kernel_rfl) (by kernel_rfl) (fun _ _ _ h => h) (Or.inl ⟨by rfl, ?_⟩) (by assumption) ?_
          rotate_left 1
          · (intro w' hSw; (try dsimp only at hSw); go_simp; try with_reducible rfl)
          try simp only [Act.put, List.setIfInBounds_toArray, List.set_cons_zero, List.set_cons_succ, List.getElem_toArray, List.getElem_cons_succ, List.getElem_cons_zero]
          refine late_take (i := 1) (v := ?_) rfl (by kernel_rfl) (by kernel_rfl) (by kernel_rfl) (by kernel_rfl) (fun _ _ _ h => h) (Or.inl ⟨by rfl, ?_⟩) (by assumption) ?_
          rotate_left 1
          · (intro w' hSw; (try dsimp only at hSw); go_simp; try with_reducible rfl)
          try simp only [Act.put, List.setIfInBounds_toArray, List.set_cons_zero, List.set_cons_succ, List.getElem_toArray, List.getElem_cons_succ, List.getElem_cons_zero]
          refine late_take (i := 2) (v := ?_) rfl (by kernel_rfl) (by kernel_rfl) (by kernel_rfl) (by kernel_rfl) (fun _ _ _ h => h) (Or.inl ⟨by rfl, ?_⟩) (by assumption) ?_
          rotate_left 1
          · (intro w' hSw; (try dsimp only at hSw); go_simp; try with_reducible rfl)
          try simp only [Act.put, List.setIfInBounds_toArray, List.set_cons_zero, List.set_cons_succ, List.getElem_toArray, List.getElem_cons_succ, List.getElem_cons_zero]
          refine late_take (i := 5) (v := ?_) rfl (by kernel_rfl) (by kernel_rfl) (by kernel_rfl) (by kernel_rfl) (fun _ _ _ h => h) (Or.inl ⟨by rfl, ?_⟩) (by assumption) ?_
          rotate_left 1
          · (intro w' hSw; (try dsimp only at hSw); go_simp; try with_reducible rfl)
          try simp only [Act.put, List.setIfInBounds_toArray, List.set_cons_zero, List.set_cons_succ, List.getElem_toArray, List.getElem_cons_succ, List.getElem_cons_zero]
          refine late_take (i := 6) (v := ?_) rfl (by kernel_rfl) (by kernel_rfl) (by kernel_rfl) (by kernel_rfl) (fun _ _ _ h => h) (Or.inl ⟨by rfl, ?_⟩) (by assumption) ?_
          rotate_left 1
          · (intro w' hSw; (try dsimp only at hSw); go_simp; try with_reducible rfl)
          try simp only [Act.put, List.setIfInBounds_toArray, List.set_cons_zero, List.set_cons_succ, List.getElem_toArray, List.getElem_cons_succ, List.getElem_cons_zero]
          refine late_take (i := 7) (v := ?_) rfl (by kernel_rfl) (by kernel_rfl) (by kernel_rfl) (by kernel_rfl) (fun _ _ _ h => h) (Or.inl ⟨by rfl, ?_⟩) (by assumption) ?_
          rotate_left 1
          · (intro w' hSw; (try dsimp only at hSw); go_simp; try with_reducible rfl)
          try simp only [Act.put, List.setIfInBounds_toArray, List.set_cons_zero, List.set_cons_succ, List.getElem_toArray, List.getElem_cons_succ, List.getElem_cons_zero]
          refine late_take (i := 8) (v := ?_) rfl (by kernel_rfl) (by kernel_rfl) (by kernel_rfl) (by kernel_rfl) (fun _ _ _ h => h) (Or.inl ⟨by rfl, ?_⟩) (by assumption) ?_
          rotate_left 1
          · (intro w' hSw; (try dsimp only at hSw); go_simp; try with_reducible rfl)
          try simp only [Act.put, List.setIfInBounds_toArray, List.set_cons_zero, List.set_cons_succ, List.getElem_toArray, List.getElem_cons_succ, List.getElem_cons_zero]
          refine late_take (i := 9) (v := ?_) rfl (by kernel_rfl) (by kernel_rfl) (by kernel_rfl) (by kernel_rfl) (fun _ _ _ h => h) (Or.inl ⟨by rfl, ?_⟩) (by assumption) ?_
          rotate_left 1
          · (intro w' hSw; (try dsimp only at hSw); go_simp; try with_reducible rfl)
          try simp only [Act.put, List.setIfInBounds_toArray, List.set_cons_zero, List.set_cons_succ, List.getElem_toArray, List.getElem_cons_succ, List.getElem_cons_zero]
          refine late_one (i := 3) (by kernel_rfl) rfl (fun K hK => ?_)
          go_simp
          refine hK.out _ _ (have k' := below_cells (w := wb) (w' := (wb.drew.alloc (.cells #[.int .i64 id, .int .i64 at'] 87))) (by go_grown); ⟨(k' _ _ z5).trans o1, (k' _ _ z2).trans t0, (k' _ _ z3).trans t1⟩) (fun hS => ?_)
          try simp only [Act.put, List.setIfInBounds_toArray, List.set_cons_zero, List.set_cons_succ, List.getElem_toArray, List.getElem_cons_succ, List.getElem_cons_zero]
          refine late_one (i := 4) (by kernel_rfl) rfl (fun K hK => ?_)
          rw [if_pos (by rfl)]
          refine wp_append_own _ _ _ 34 rfl (w3.heap.size + 2) 87 i0 _ 2 16 Try.underlying34 hi hz0 hz1 hz2 rfl (by decide) _ _ _ rfl (hown.drew.alloc _) ⟨wb.heap.size, 0, none⟩ 1 1 [.int .i64 id, .int .i64 at'] rfl rfl (two_news (by go_simp) (by go_simp)) (flat_one' [(id, at')]) (by have := HLl.out; unfold maxLen; omega) (by have := HLl.out; omega) (by simp; omega) ?_
          intro v1 wx hown1 hgr1 hnil1
          obtain ⟨a1, c1', rfl⟩ := own_slice hown1
          have hno : OnlyO (Value.slice ua k uc).ownBlock wb wx := OnlyO.trans (OnlyO.of_below (by go_grown)) (OnlyO.of_grown hgr1)
          have K1 := KP.onlyO hno (fun j e' => by have := (hown.lt j e').1; omega) (fun c hc e' => by simp only [List.mem_cons, List.not_mem_nil, or_false] at hc; have u := (hown.lt _ e').1; rcases hc with rfl | rfl | rfl | rfl | rfl | rfl <;> (simp only at u; omega)) (fun b hb e' => by simp only [List.mem_cons, List.not_mem_nil, or_false] at hb; have u := (hown.lt _ e').1; rcases hb with rfl | rfl <;> omega)
          have fX := f.onlyO hno (by omega) (fun e' => by have := (hown.lt g e').1; omega)
          have hx1 := hno.size
          have ⟨_, _, ⟨_, t01⟩, ⟨_, t11⟩, _, ⟨_, o11⟩, _⟩ := K1.cells
          refine hK.out _ _ ⟨o11, t01, t11⟩ (fun hS => ?_)
          try simp only [Act.put, List.setIfInBounds_toArray, List.set_cons_zero, List.set_cons_succ, List.getElem_toArray, List.getElem_cons_succ, List.getElem_cons_zero]
          refine late_one (i := 10) (by kernel_rfl) rfl (fun K hK => ?_)
          rw [if_pos (by rfl)]
          refine wp_append_own _ _ _ 34 rfl (w3.heap.size + 2) 87 i0 _ 2 16 Try.underlying34 hi hz0 hz1 hz2 rfl (by decide) _ _ _ rfl hown1 ⟨g, k * 2, none⟩ (L.length - k) _ (flat (L.drop k)) rfl (by rw [flat_length, List.length_drop]) (fill_tail fX k) (flat_one' _) (by have := HLl.out; unfold maxLen; omega) (by have := HLl.out; omega) (by omega) ?_
          intro v2 wy hown2 hgr2 hnil2
          obtain ⟨a2, c2', rfl⟩ := own_slice hown2
          have hno2 : OnlyO (Value.slice a1 (k + 1) c1').ownBlock wx wy := OnlyO.of_grown hgr2
          have K2 := K1.onlyO hno2 (fun j e' => by have := (hown1.lt j e').1; omega) (fun c hc e' => by simp only [List.mem_cons, List.not_mem_nil, or_false] at hc; have u := (hown1.lt _ e').1; rcases hc with rfl | rfl | rfl | rfl | rfl | rfl <;> (simp only at u; omega)) (fun b hb e' => by simp only [List.mem_cons, List.not_mem_nil, or_false] at hb; have u := (hown1.lt _ e').1; rcases hb with rfl | rfl <;> omega)
          have ⟨_, _, ⟨_, t02⟩, ⟨_, t12⟩, ⟨_, o02⟩, ⟨_, o12⟩, _⟩ := K2.cells
          have fo2 := (K2.free (w3.heap.size + 1) (by simp)).2
          have KF := (K2.put (w3.heap.size + 1) 1 (.slice a2 (k + 1 + (L.length - k)) c2') (by omega)).to (cs' := [(w.heap.size + 1, 0, .int .i64 0), (w.heap.size + 1, 1, .slice none 0 0), (w3.heap.size, 0, .int .i64 id), (w3.heap.size, 1, .int .i64 at'), (w3.heap.size + 1, 0, .int .i64 now), (w3.heap.size + 1, 1, .slice a2 (k + 1 + (L.length - k)) c2')]) (by simp [putIn]; omega)
          have ow4 := row_set (v := .slice a2 (k + 1 + (L.length - k)) c2') (i := 1) hown2 (show w3.heap.size + 1 < w3.heap.size + 2 by omega)
          refine hK.out _ _ ⟨o12, t02, t12⟩ (fun hS => ?_)
          try simp only [Act.put, List.setIfInBounds_toArray, List.set_cons_zero, List.set_cons_succ, List.getElem_toArray, List.getElem_cons_succ, List.getElem_cons_zero]
          refine late_take (i := 11) (v := ?_) rfl (by kernel_rfl) (by kernel_rfl) (by kernel_rfl) (by kernel_rfl) (fun _ _ _ h => h) (Or.inl ⟨by rfl, ?_⟩) (by assumption) ?_
          rotate_left 1
          · (intro w' hSw; (try dsimp only at hSw); go_simp; try with_reducible rfl)
          try simp only [Act.put, List.setIfInBounds_toArray, List.set_cons_zero, List.set_cons_succ, List.getElem_toArray, List.getElem_cons_succ, List.getElem_cons_zero]
          refine late_last (by kernel_rfl) rfl (by kernel_rfl) (fun K hK => ?_)
          go_simp
          refine hK.out _ _ ?_
          try simp only [Act.put, List.setIfInBounds_toArray, List.set_cons_zero, List.set_cons_succ, List.getElem_toArray, List.getElem_cons_succ, List.getElem_cons_zero]
          obtain ⟨wz, hwz⟩ : ∃ wz, wz = wy.setCell ⟨w3.heap.size + 1, 1, none⟩ (.slice a2 (k + 1 + (L.length - k)) c2') := ⟨_, rfl⟩
          rw [← hwz] at KF ow4 ⊢
          have ⟨⟨_, r0z⟩, ⟨_, r1z⟩, _, _, ⟨_, o0z⟩, ⟨_, o1z⟩, _⟩ := KF.cells
          have frz := (KF.free (w.heap.size + 1) (by simp)).2
          have hbz := KF.hb
          clear hwz
          go_wp2
          refine bodyPost_ret (results_two rfl _ _ _ [.int .i64 now, .slice a2 (k + 1 + (L.length - k)) c2'] rfl (set_two (u0 := .int .i64 0) (u1 := .slice none 0 0) _ _ r0z r1z) Try.underlying36 rfl (by kernel_rfl)) rfl ?_
          have hfin : wz.ownsRow (w3.heap.size + 2) 87 2 (.slice a2 (k + 1 + (L.length - k)) c2') (insOf L (id, at')).length (flat (insOf L (id, at'))) := by
            have e1 : (insOf L (id, at')).length = k + 1 + (L.length - k) := by rw [hins.out]; simp; omega
            rw [e1, hins.out, flat_append, flat_append]
            exact ow4
          have fin2 := row_set (v := .slice a2 (k + 1 + (L.length - k)) c2') (i := 1) (row_set (v := .int .i64 now) (i := 0) hfin (show w.heap.size + 1 < w3.heap.size + 2 by omega)) (show w.heap.size + 1 < w3.heap.size + 2 by omega)
          exact ⟨_, _, _, rfl, row_low fin2 (by omega), by go_grown⟩
      · have KP := KP.next hbr
        have hown := row_next hown hbr
        have f := f.mono hbr hgr
        have hzb : w3.heap.size + 2 ≤ wb.heap.size := Nat.le_trans hz hbr.size
        clear z0 r0 z1 r1 z2 t0 z3 t1 z4 o0 z5 o1
        have ⟨⟨z0, r0⟩, ⟨z1, r1⟩, ⟨z2, t0⟩, ⟨z3, t1⟩, ⟨z4, o0⟩, ⟨z5, o1⟩, _⟩ := KP.cells
        obtain ⟨e0, e1⟩ := f.got k hlt hlt
        rw [HX.out] at e0 e1
        simp only at e0 e1
        go_wp2
        refine region_late (S := fun w' => w'.cell? ⟨w3.heap.size + 1, 1, none⟩ = some (.slice ua k uc) ∧ w'.cell? ⟨g, k * 2, none⟩ = some (.int .i64 p) ∧ w'.cell? ⟨g, k * 2 + 1, none⟩ = some (.int .i64 q)) 9 (by kernel_rfl) (⟨by go_simp, by go_simp, by go_simp⟩) (fun hS => ?_)
        refine late_take (i := 0) (v := ?_) rfl (by kernel_rfl) (by kernel_rfl) (by kernel_rfl) (by kernel_rfl) (fun _ _ _ h => h) (Or.inl ⟨by rfl, ?_⟩) (by assumption) ?_
        rotate_left 1
        · (intro w' hSw; (try dsimp only at hSw); go_simp; try with_reducible rfl)
        try simp only [Act.put, List.setIfInBounds_toArray, List.set_cons_zero, List.set_cons_succ, List.getElem_toArray, List.getElem_cons_succ, List.getElem_cons_zero]
        refine late_take (i := 1) (v := ?_) rfl (by kernel_rfl) (by kernel_rfl) (by kernel_rfl) (by kernel_rfl) (fun _ _ _ h => h) (Or.inl ⟨by rfl, ?_⟩) (by assumption) ?_
        rotate_left 1
        · (intro w' hSw; (try dsimp only at hSw); go_simp; try with_reducible rfl)
        try simp only [Act.put, List.setIfInBounds_toArray, List.set_cons_zero, List.set_cons_succ, List.getElem_toArray, List.getElem_cons_succ, List.getElem_cons_zero]
        refine late_take (i := 2) (v := ?_) rfl (by kernel_rfl) (by kernel_rfl) (by kernel_rfl) (by kernel_rfl) (fun _ _ _ h => h) (Or.inl ⟨by rfl, ?_⟩) (by assumption) ?_
        rotate_left 1
        · (intro w' hSw; (try dsimp only at hSw); go_simp; try with_reducible rfl)
        try simp only [Act.put, List.setIfInBounds_toArray, List.set_cons_zero, List.set_cons_succ, List.getElem_toArray, List.getElem_cons_succ, List.getElem_cons_zero]
        refine late_take (i := 3) (v := ?_) rfl (by kernel_rfl) (by kernel_rfl) (by kernel_rfl) (by kernel_rfl) (fun _ _ _ h => h) (Or.inl ⟨by rfl, ?_⟩) (by assumption) ?_
        rotate_left 1
        · (intro w' hSw; (try dsimp only at hSw); go_simp; try with_reducible rfl)
        try simp only [Act.put, List.setIfInBounds_toArray, List.set_cons_zero, List.set_cons_succ, List.getElem_toArray, List.getElem_cons_succ, List.getElem_cons_zero]
        refine late_take (i := 4) (v := ?_) rfl (by kernel_rfl) (by kernel_rfl) (by kernel_rfl) (by kernel_rfl) (fun _ _ _ h => h) (Or.inl ⟨by rfl, ?_⟩) (by assumption) ?_
        rotate_left 1
        · (intro w' hSw; (try dsimp only at hSw); go_simp; try with_reducible rfl)
        try simp only [Act.put, List.setIfInBounds_toArray, List.set_cons_zero, List.set_cons_succ, List.getElem_toArray, List.getElem_cons_succ, List.getElem_cons_zero]
        refine late_take (i := 5) (v := ?_) rfl (by kernel_rfl) (by kernel_rfl) (by kernel_rfl) (by kernel_rfl) (fun _ _ _ h => h) (Or.inl ⟨by rfl, ?_⟩) (by assumption) ?_
        rotate_left 1
        · (intro w' hSw; (try dsimp only at hSw); go_simp; try with_reducible rfl)
        try simp only [Act.put, List.setIfInBounds_toArray, List.set_cons_zero, List.set_cons_succ, List.getElem_toArray, List.getElem_cons_succ, List.getElem_cons_zero]
        refine late_one (i := 6) (by kernel_rfl) rfl (fun K hK => ?_)
        go_simp
        refine hK.out _ _ (have k' := below_cells (w := wb) (w' := (wb.drew.alloc (.cells #[.int .i64 p, .int .i64 q] 87))) (by go_grown); ⟨(k' _ _ z5).trans o1, (k' _ _ (by omega)).trans e0, (k' _ _ (by omega)).trans e1⟩) (fun hS => ?_)
        try simp only [Act.put, List.setIfInBounds_toArray, List.set_cons_zero, List.set_cons_succ, List.getElem_toArray, List.getElem_cons_succ, List.getElem_cons_zero]
        refine late_one (i := 7) (by kernel_rfl) rfl (fun K hK => ?_)
        rw [if_pos (by rfl)]
        refine wp_append_own _ _ _ 34 rfl (w3.heap.size + 2) 87 i0 _ 2 16 Try.underlying34 hi hz0 hz1 hz2 rfl (by decide) _ _ _ rfl (hown.drew.alloc _) ⟨wb.heap.size, 0, none⟩ 1 1 [.int .i64 p, .int .i64 q] rfl rfl (two_news (by go_simp) (by go_simp)) (flat_one' [(p, q)]) (by have := HLl.out; unfold maxLen; omega) (by have := HLl.out; omega) (by simp; omega) ?_
        intro v1 wx hown1 hgr1 hnil1
        obtain ⟨a1, c1', rfl⟩ := own_slice hown1
        have hno : OnlyO (Value.slice ua k uc).ownBlock wb wx := OnlyO.trans (OnlyO.of_below (by go_grown)) (OnlyO.of_grown hgr1)
        have K1 := KP.onlyO hno (fun j e' => by have := (hown.lt j e').1; omega) (fun c hc e' => by simp only [List.mem_cons, List.not_mem_nil, or_false] at hc; have u := (hown.lt _ e').1; rcases hc with rfl | rfl | rfl | rfl | rfl | rfl <;> (simp only at u; omega)) (fun b hb e' => by simp only [List.mem_cons, List.not_mem_nil, or_false] at hb; have u := (hown.lt _ e').1; rcases hb with rfl | rfl <;> omega)
        have fX := f.onlyO hno (by omega) (fun e' => by have := (hown.lt g e').1; omega)
        have KF := (K1.put (w3.heap.size + 1) 1 (.slice a1 (k + 1) c1') (by omega)).to (cs' := [(w.heap.size + 1, 0, .int .i64 0), (w.heap.size + 1, 1, .slice none 0 0), (w3.heap.size, 0, .int .i64 id), (w3.heap.size, 1, .int .i64 at'), (w3.heap.size + 1, 0, .int .i64 now), (w3.heap.size + 1, 1, .slice a1 (k + 1) c1')]) (by simp [putIn]; omega)
        have fF := fX.far (p := ⟨w3.heap.size + 1, 1, none⟩) (.slice a1 (k + 1) c1') (by dsimp only; omega)
        have ow3 := row_set (v := .slice a1 (k + 1) c1') (i := 1) hown1 (show w3.heap.size + 1 < w3.heap.size + 2 by omega)
        have hx1 := hno.size
        have ⟨_, _, _, _, _, ⟨_, o11⟩, _⟩ := K1.cells
        have e01 := fX.got k hlt hlt
        rw [HX.out] at e01
        have fo1 := (K1.free (w3.heap.size + 1) (by simp)).2
        refine hK.out _ _ ⟨o11, e01.1, e01.2⟩ (fun hS => ?_)
        try simp only [Act.put, List.setIfInBounds_toArray, List.set_cons_zero, List.set_cons_succ, List.getElem_toArray, List.getElem_cons_succ, List.getElem_cons_zero]
        refine late_take (i := 8) (v := ?_) rfl (by kernel_rfl) (by kernel_rfl) (by kernel_rfl) (by kernel_rfl) (fun _ _ _ h => h) (Or.inl ⟨by rfl, ?_⟩) (by assumption) ?_
        rotate_left 1
        · (intro w' hSw; (try dsimp only at hSw); go_simp; try with_reducible rfl)
        try simp only [Act.put, List.setIfInBounds_toArray, List.set_cons_zero, List.set_cons_succ, List.getElem_toArray, List.getElem_cons_succ, List.getElem_cons_zero]
        refine late_last (by kernel_rfl) rfl (by kernel_rfl) (fun K hK => ?_)
        go_simp
        refine hK.out _ _ ?_
        try simp only [Act.put, List.setIfInBounds_toArray, List.set_cons_zero, List.set_cons_succ, List.getElem_toArray, List.getElem_cons_succ, List.getElem_cons_zero]
        go_wp2
        go_roundw
        case rel => exact ⟨k + 1, a1, c1', by go_num, by omega, KF, fF, by rw [take_flat hlt, HX.out]; exact ow3, fun j hj hjk => (by by_cases e : j = k; (· subst e; rw [HX.out]; exact HBF.out); (· exact hbef j hj (by omega))), by simp; omega⟩
        case measure => first | (simp [intOf]; done) | (simp [intOf]; omega)
    · have hlt' : ¬ (k : Int) < (L.length : Int) := by omega
      have hdl : decide ((k : Int) < (L.length : Int)) = false := decide_eq_false hlt'
      have hins : Hid (insOf L (id, at') = L.take k ++ [(id, at')] ++ L.drop k) := ins_at hk hbef (fun h => absurd h hlt)
      have hgr : g < wr.heap.size := by omega
      go_wp2
      refine wp_region_held_drew (S := fun w' => w'.cell? ⟨w3.heap.size, 0, none⟩ = some (.int .i64 id) ∧ w'.cell? ⟨w3.heap.size, 1, none⟩ = some (.int .i64 at')) (by kernel_rfl) (⟨by go_simp, by go_simp⟩) (fun hS => ?_)
      refine wpAnyH_take (i := 0) (v := ?_) rfl (by kernel_rfl) (by kernel_rfl) (by kernel_rfl) (fun _ _ _ h => h) (Or.inl ⟨by rfl, ?_⟩) (by assumption) ?_
      rotate_left 1
      · (intro w' hSw; (try dsimp only at hSw); go_simp; try with_reducible rfl)
      try simp only [Act.put, List.setIfInBounds_toArray, List.set_cons_zero, List.set_cons_succ, List.getElem_toArray, List.getElem_cons_succ, List.getElem_cons_zero]
      refine wpAnyH_take (i := 1) (v := ?_) rfl (by kernel_rfl) (by kernel_rfl) (by kernel_rfl) (fun _ _ _ h => h) (Or.inl ⟨by rfl, ?_⟩) (by assumption) ?_
      rotate_left 1
      · (intro w' hSw; (try dsimp only at hSw); go_simp; try with_reducible rfl)
      try simp only [Act.put, List.setIfInBounds_toArray, List.set_cons_zero, List.set_cons_succ, List.getElem_toArray, List.getElem_cons_succ, List.getElem_cons_zero]
      refine wpAnyH_take (i := 2) (v := ?_) rfl (by kernel_rfl) (by kernel_rfl) (by kernel_rfl) (fun _ _ _ h => h) (Or.inl ⟨by rfl, ?_⟩) (by assumption) ?_
      rotate_left 1
      · (intro w' hSw; (try dsimp only at hSw); go_simp; try with_reducible rfl)
      try simp only [Act.put, List.setIfInBounds_toArray, List.set_cons_zero, List.set_cons_succ, List.getElem_toArray, List.getElem_cons_succ, List.getElem_cons_zero]
      refine wpAnyH_take (i := 3) (v := ?_) rfl (by kernel_rfl) (by kernel_rfl) (by kernel_rfl) (fun _ _ _ h => h) (Or.inl ⟨by rfl, ?_⟩) (by assumption) ?_
      rotate_left 1
      · (intro w' hSw; (try dsimp only at hSw); go_simp; try with_reducible rfl)
      try simp only [Act.put, List.setIfInBounds_toArray, List.set_cons_zero, List.set_cons_succ, List.getElem_toArray, List.getElem_cons_succ, List.getElem_cons_zero]
      refine wpAnyH_take (i := 4) (v := ?_) rfl (by kernel_rfl) (by kernel_rfl) (by kernel_rfl) (fun _ _ _ h => h) (Or.inl ⟨by rfl, ?_⟩) (by assumption) ?_
      rotate_left 1
      · (intro w' hSw; (try dsimp only at hSw); go_simp; try with_reducible rfl)
      try simp only [Act.put, List.setIfInBounds_toArray, List.set_cons_zero, List.set_cons_succ, List.getElem_toArray, List.getElem_cons_succ, List.getElem_cons_zero]
      refine wpAnyH_take (i := 5) (v := undef) rfl (by kernel_rfl) (by kernel_rfl) (by kernel_rfl) (fun _ _ _ h => h) (Or.inr ⟨by rfl, rfl⟩) (by assumption) ?_
      try simp only [Act.put, List.setIfInBounds_toArray, List.set_cons_zero, List.set_cons_succ, List.getElem_toArray, List.getElem_cons_succ, List.getElem_cons_zero]
      refine wpAnyH_take (i := 6) (v := undef) rfl (by kernel_rfl) (by kernel_rfl) (by kernel_rfl) (fun _ _ _ h => h) (Or.inr ⟨by rfl, rfl⟩) (by assumption) ?_
      try simp only [Act.put, List.setIfInBounds_toArray, List.set_cons_zero, List.set_cons_succ, List.getElem_toArray, List.getElem_cons_succ, List.getElem_cons_zero]
      refine wpAnyH_take (i := 7) (v := undef) rfl (by kernel_rfl) (by kernel_rfl) (by kernel_rfl) (fun _ _ _ h => h) (Or.inr ⟨by rfl, rfl⟩) (by assumption) ?_
      try simp only [Act.put, List.setIfInBounds_toArray, List.set_cons_zero, List.set_cons_succ, List.getElem_toArray, List.getElem_cons_succ, List.getElem_cons_zero]
      refine wpAnyH_take (i := 8) (v := undef) rfl (by kernel_rfl) (by kernel_rfl) (by kernel_rfl) (fun _ _ _ h => h) (Or.inr ⟨by rfl, rfl⟩) (by assumption) ?_
      try simp only [Act.put, List.setIfInBounds_toArray, List.set_cons_zero, List.set_cons_succ, List.getElem_toArray, List.getElem_cons_succ, List.getElem_cons_zero]
      refine wpAnyH_take (i := 9) (v := undef) rfl (by kernel_rfl) (by kernel_rfl) (by kernel_rfl) (fun _ _ _ h => h) (Or.inr ⟨by rfl, rfl⟩) (by assumption) ?_
      try simp only [Act.put, List.setIfInBounds_toArray, List.set_cons_zero, List.set_cons_succ, List.getElem_toArray, List.getElem_cons_succ, List.getElem_cons_zero]
      refine wpAnyH_take (i := 10) (v := undef) rfl (by kernel_rfl) (by kernel_rfl) (by kernel_rfl) (fun _ _ _ h => h) (Or.inr ⟨by rfl, rfl⟩) (by assumption) ?_
      try simp only [Act.put, List.setIfInBounds_toArray, List.set_cons_zero, List.set_cons_succ, List.getElem_toArray, List.getElem_cons_succ, List.getElem_cons_zero]
      refine wpAnyH_take (i := 11) (v := ?_) rfl (by kernel_rfl) (by kernel_rfl) (by kernel_rfl) (fun _ _ _ h => h) (Or.inl ⟨by rfl, ?_⟩) (by assumption) ?_
      rotate_left 1
      · (intro w' hSw; (try dsimp only at hSw); go_simp; try with_reducible rfl)
      try simp only [Act.put, List.setIfInBounds_toArray, List.set_cons_zero, List.set_cons_succ, List.getElem_toArray, List.getElem_cons_succ, List.getElem_cons_zero]
      refine wpAnyH_done (by kernel_rfl) ?_ _
      obtain ⟨wb, hwb⟩ : ∃ wb, wb = wr.drew := ⟨_, rfl⟩
      rw [← hwb]
      have hbr : Below wr.heap.size wr wb := by rw [hwb]; exact (Below.refl _ _).drew
      clear hwb
      have KP := KP.next hbr
      have hown := row_next hown hbr
      have f := f.mono hbr hgr
      have hzb : w3.heap.size + 2 ≤ wb.heap.size := Nat.le_trans hz hbr.size
      clear z0 r0 z1 r1 z2 t0 z3 t1 z4 o0 z5 o1
      have ⟨⟨z0, r0⟩, ⟨z1, r1⟩, ⟨z2, t0⟩, ⟨z3, t1⟩, ⟨z4, o0⟩, ⟨z5, o1⟩, _⟩ := KP.cells
      go_wp2
      have hkl : (k : Int) ≤ (L.length : Int) := by omega
      have hkc : (L.length : Int) ≤ (c : Int) := by omega
      have hk0 : (0 : Int) ≤ (k : Int) := by omega
      by_cases hck : c = k
      · subst hck
        refine region_late (S := fun w' => w'.cell? ⟨w3.heap.size + 1, 1, none⟩ = some (.slice ua c uc) ∧ w'.cell? ⟨w3.heap.size, 0, none⟩ = some (.int .i64 id) ∧ w'.cell? ⟨w3.heap.size, 1, none⟩ = some (.int .i64 at')) 12 (by kernel_rfl) (⟨by go_simp, by go_simp, by go_simp⟩) (fun hS => ?_)
        refine late_take (i := 0) (v := ?_) rfl (by kernel_rfl) (by kernel_rfl) (by kernel_rfl) (by kernel_rfl) (fun _ _ _ h => h) (Or.inl ⟨by rfl, ?_⟩) (by assumption) ?_
        rotate_left 1
        · (intro w' hSw; (try dsimp only at hSw); go_simp; try with_reducible rfl)
        try simp only [Act.put, List.setIfInBounds_toArray, List.set_cons_zero, List.set_cons_succ, List.getElem_toArray, List.getElem_cons_succ, List.getElem_cons_zero]
        refine late_take (i := 1) (v := ?_) rfl (by kernel_rfl) (by kernel_rfl) (by kernel_rfl) (by kernel_rfl) (fun _ _ _ h => h) (Or.inl ⟨by rfl, ?_⟩) (by assumption) ?_
        rotate_left 1
        · (intro w' hSw; (try dsimp only at hSw); go_simp; try with_reducible rfl)
        try simp only [Act.put, List.setIfInBounds_toArray, List.set_cons_zero, List.set_cons_succ, List.getElem_toArray, List.getElem_cons_succ, List.getElem_cons_zero]
        refine late_take (i := 2) (v := ?_) rfl (by kernel_rfl) (by kernel_rfl) (by kernel_rfl) (by kernel_rfl) (fun _ _ _ h => h) (Or.inl ⟨by rfl, ?_⟩) (by assumption) ?_
        rotate_left 1
        · (intro w' hSw; (try dsimp only at hSw); go_simp; try with_reducible rfl)
        try simp only [Act.put, List.setIfInBounds_toArray, List.set_cons_zero, List.set_cons_succ, List.getElem_toArray, List.getElem_cons_succ, List.getElem_cons_zero]
        refine late_take (i := 5) (v := ?_) rfl (by kernel_rfl) (by kernel_rfl) (by kernel_rfl) (by kernel_rfl) (fun _ _ _ h => h) (Or.inl ⟨by rfl, ?_⟩) (by assumption) ?_
        rotate_left 1
        · (intro w' hSw; (try dsimp only at hSw); go_simp; try with_reducible rfl)
        try simp only [Act.put, List.setIfInBounds_toArray, List.set_cons_zero, List.set_cons_succ, List.getElem_toArray, List.getElem_cons_succ, List.getElem_cons_zero]
        refine late_take (i := 6) (v := ?_) rfl (by kernel_rfl) (by kernel_rfl) (by kernel_rfl) (by kernel_rfl) (fun _ _ _ h => h) (Or.inl ⟨by rfl, ?_⟩) (by assumption) ?_
        rotate_left 1
        · (intro w' hSw; (try dsimp only at hSw); go_simp; try with_reducible rfl)
        try simp only [Act.put, List.setIfInBounds_toArray, List.set_cons_zero, List.set_cons_succ, List.getElem_toArray, List.getElem_cons_succ, List.getElem_cons_zero]
        refine late_take (i := 7) (v := ?_) rfl (by kernel_rfl) (by kernel_rfl) (by kernel_rfl) (by kernel_rfl) (fun _ _ _ h => h) (Or.inl ⟨by rfl, ?_⟩) (by assumption) ?_
        rotate_left 1
        · (intro w' hSw; (try dsimp only at hSw); go_simp; try with_reducible rfl)
        try simp only [Act.put, List.setIfInBounds_toArray, List.set_cons_zero, List.set_cons_succ, List.getElem_toArray, List.getElem_cons_succ, List.getElem_cons_zero]
        refine late_take (i := 8) (v := ?_) rfl (by kernel_rfl) (by kernel_rfl) (by kernel_rfl) (by kernel_rfl) (fun _ _ _ h => h) (Or.inl ⟨by rfl, ?_⟩) (by assumption) ?_
        rotate_left 1
        · (intro w' hSw; (try dsimp only at hSw); go_simp; try with_reducible rfl)
        try simp only [Act.put, List.setIfInBounds_toArray, List.set_cons_zero, List.set_cons_succ, List.getElem_toArray, List.getElem_cons_succ, List.getElem_cons_zero]
        refine late_take (i := 9) (v := ?_) rfl (by kernel_rfl) (by kernel_rfl) (by kernel_rfl) (by kernel_rfl) (fun _ _ _ h => h) (Or.inl ⟨by rfl, ?_⟩) (by assumption) ?_
        rotate_left 1
        · (intro w' hSw; (try dsimp only at hSw); go_simp; try with_reducible rfl)
        try simp only [Act.put, List.setIfInBounds_toArray, List.set_cons_zero, List.set_cons_succ, List.getElem_toArray, List.getElem_cons_succ, List.getElem_cons_zero]
        refine late_one (i := 3) (by kernel_rfl) rfl (fun K hK => ?_)
        go_simp
        refine hK.out _ _ (have k' := below_cells (w := wb) (w' := (wb.drew.alloc (.cells #[.int .i64 id, .int .i64 at'] 87))) (by go_grown); ⟨(k' _ _ z5).trans o1, (k' _ _ z2).trans t0, (k' _ _ z3).trans t1⟩) (fun hS => ?_)
        try simp only [Act.put, List.setIfInBounds_toArray, List.set_cons_zero, List.set_cons_succ, List.getElem_toArray, List.getElem_cons_succ, List.getElem_cons_zero]
        refine late_one (i := 4) (by kernel_rfl) rfl (fun K hK => ?_)
        rw [if_pos (by rfl)]
        refine wp_append_own _ _ _ 34 rfl (w3.heap.size + 2) 87 i0 _ 2 16 Try.underlying34 hi hz0 hz1 hz2 rfl (by decide) _ _ _ rfl (hown.drew.alloc _) ⟨wb.heap.size, 0, none⟩ 1 1 [.int .i64 id, .int .i64 at'] rfl rfl (two_news (by go_simp) (by go_simp)) (flat_one' [(id, at')]) (by have := HLl.out; unfold maxLen; omega) (by have := HLl.out; omega) (by simp; omega) ?_
        intro v1 wx hown1 hgr1 hnil1
        obtain ⟨a1, c1', rfl⟩ := own_slice hown1
        have hno : OnlyO (Value.slice ua c uc).ownBlock wb wx := OnlyO.trans (OnlyO.of_below (by go_grown)) (OnlyO.of_grown hgr1)
        have K1 := KP.onlyO hno (fun j e' => by have := (hown.lt j e').1; omega) (fun c hc e' => by simp only [List.mem_cons, List.not_mem_nil, or_false] at hc; have u := (hown.lt _ e').1; rcases hc with rfl | rfl | rfl | rfl | rfl | rfl <;> (simp only at u; omega)) (fun b hb e' => by simp only [List.mem_cons, List.not_mem_nil, or_false] at hb; have u := (hown.lt _ e').1; rcases hb with rfl | rfl <;> omega)
        have fX := f.onlyO hno (by omega) (fun e' => by have := (hown.lt g e').1; omega)
        have hx1 := hno.size
        have ⟨_, _, ⟨_, t01⟩, ⟨_, t11⟩, _, ⟨_, o11⟩, _⟩ := K1.cells
        refine hK.out _ _ ⟨o11, t01, t11⟩ (fun hS => ?_)
        try simp only [Act.put, List.setIfInBounds_toArray, List.set_cons_zero, List.set_cons_succ, List.getElem_toArray, List.getElem_cons_succ, List.getElem_cons_zero]
        refine late_one (i := 10) (by kernel_rfl) rfl (fun K hK => ?_)
        rw [if_pos (by rfl)]
        refine wp_append_own _ _ _ 34 rfl (w3.heap.size + 2) 87 i0 _ 2 16 Try.underlying34 hi hz0 hz1 hz2 rfl (by decide) _ _ _ rfl hown1 ⟨g, 0, none⟩ 0 _ [] rfl rfl (fun j v hv => by cases hv) (fun u hu => by cases hu) (by have := HLl.out; unfold maxLen; omega) (by have := HLl.out; omega) (by omega) ?_
        intro v2 wy hown2 hgr2 hnil2
        obtain ⟨a2, c2', rfl⟩ := own_slice hown2
        have hno2 : OnlyO (Value.slice a1 (c + 1) c1').ownBlock wx wy := OnlyO.of_grown hgr2
        have K2 := K1.onlyO hno2 (fun j e' => by have := (hown1.lt j e').1; omega) (fun c hc e' => by simp only [List.mem_cons, List.not_mem_nil, or_false] at hc; have u := (hown1.lt _ e').1; rcases hc with rfl | rfl | rfl | rfl | rfl | rfl <;> (simp only at u; omega)) (fun b hb e' => by simp only [List.mem_cons, List.not_mem_nil, or_false] at hb; have u := (hown1.lt _ e').1; rcases hb with rfl | rfl <;> omega)
        have ⟨_, _, ⟨_, t02⟩, ⟨_, t12⟩, ⟨_, o02⟩, ⟨_, o12⟩, _⟩ := K2.cells
        have fo2 := (K2.free (w3.heap.size + 1) (by simp)).2
        have KF := (K2.put (w3.heap.size + 1) 1 (.slice a2 (c + 1 + 0) c2') (by omega)).to (cs' := [(w.heap.size + 1, 0, .int .i64 0), (w.heap.size + 1, 1, .slice none 0 0), (w3.heap.size, 0, .int .i64 id), (w3.heap.size, 1, .int .i64 at'), (w3.heap.size + 1, 0, .int .i64 now), (w3.heap.size + 1, 1, .slice a2 (c + 1 + 0) c2')]) (by simp [putIn]; omega)
        have ow4 := row_set (v := .slice a2 (c + 1 + 0) c2') (i := 1) hown2 (show w3.heap.size + 1 < w3.heap.size + 2 by omega)
        refine hK.out _ _ ⟨o12, t02, t12⟩ (fun hS => ?_)
        try simp only [Act.put, List.setIfInBounds_toArray, List.set_cons_zero, List.set_cons_succ, List.getElem_toArray, List.getElem_cons_succ, List.getElem_cons_zero]
        refine late_take (i := 11) (v := ?_) rfl (by kernel_rfl) (by kernel_rfl) (by kernel_rfl) (by kernel_rfl) (fun _ _ _ h => h) (Or.inl ⟨by rfl, ?_⟩) (by assumption) ?_
        rotate_left 1
        · (intro w' hSw; (try dsimp only at hSw); go_simp; try with_reducible rfl)
        try simp only [Act.put, List.setIfInBounds_toArray, List.set_cons_zero, List.set_cons_succ, List.getElem_toArray, List.getElem_cons_succ, List.getElem_cons_zero]
        refine late_last (by kernel_rfl) rfl (by kernel_rfl) (fun K hK => ?_)
        go_simp
        refine hK.out _ _ ?_
        try simp only [Act.put, List.setIfInBounds_toArray, List.set_cons_zero, List.set_cons_succ, List.getElem_toArray, List.getElem_cons_succ, List.getElem_cons_zero]
        obtain ⟨wz, hwz⟩ : ∃ wz, wz = wy.setCell ⟨w3.heap.size + 1, 1, none⟩ (.slice a2 (c + 1 + 0) c2') := ⟨_, rfl⟩
        rw [← hwz] at KF ow4 ⊢
        have ⟨⟨_, r0z⟩, ⟨_, r1z⟩, _, _, ⟨_, o0z⟩, ⟨_, o1z⟩, _⟩ := KF.cells
        have frz := (KF.free (w.heap.size + 1) (by simp)).2
        have hbz := KF.hb
        clear hwz
        go_wp2
        refine bodyPost_ret (results_two rfl _ _ _ [.int .i64 now, .slice a2 (c + 1 + 0) c2'] rfl (set_two (u0 := .int .i64 0) (u1 := .slice none 0 0) _ _ r0z r1z) Try.underlying36 rfl (by kernel_rfl)) rfl ?_
        have hfin : wz.ownsRow (w3.heap.size + 2) 87 2 (.slice a2 (c + 1 + 0) c2') (insOf L (id, at')).length (flat (insOf L (id, at'))) := by
          have e1 : (insOf L (id, at')).length = c + 1 + 0 := by rw [hins.out]; simp; omega
          rw [e1, hins.out, List.drop_eq_nil_of_le (by omega), flat_append, flat_append]
          exact ow4
        have fin2 := row_set (v := .slice a2 (c + 1 + 0) c2') (i := 1) (row_set (v := .int .i64 now) (i := 0) hfin (show w.heap.size + 1 < w3.heap.size + 2 by omega)) (show w.heap.size + 1 < w3.heap.size + 2 by omega)
        exact ⟨_, _, _, rfl, row_low fin2 (by omega), by go_grown⟩
      · refine region_late (S := fun w' => w'.cell? ⟨w3.heap.size + 1, 1, none⟩ = some (.slice ua k uc) ∧ w'.cell? ⟨w3.heap.size, 0, none⟩ = some (.int .i64 id) ∧ w'.cell? ⟨w3.heap.size, 1, none⟩ = some (.int .i64 at')) 12 (by kernel_rfl) (⟨by go_simp, by go_simp, by go_simp⟩) (fun hS => ?_)
        refine late_take (i := 0) (v := ?_) rfl (by kernel_rfl) (by kernel_rfl) (by kernel_rfl) (by kernel_rfl) (fun _ _ _ h => h) (Or.inl ⟨by rfl, ?_⟩) (by assumption) ?_
        rotate_left 1
        · (intro w' hSw; (try dsimp only at hSw); go_simp; try with_reducible rfl)
        try simp only [Act.put, List.setIfInBounds_toArray, List.set_cons_zero, List.set_cons_succ, List.getElem_toArray, List.getElem_cons_succ, List.getElem_cons_zero]
        refine late_take (i := 1) (v := ?_) rfl (by kernel_rfl) (by kernel_rfl) (by kernel_rfl) (by kernel_rfl) (fun _ _ _ h => h) (Or.inl ⟨by rfl, ?_⟩) (by assumption) ?_
        rotate_left 1
        · (intro w' hSw; (try dsimp only at hSw); go_simp; try with_reducible rfl)
        try simp only [Act.put, List.setIfInBounds_toArray, List.set_cons_zero, List.set_cons_succ, List.getElem_toArray, List.getElem_cons_succ, List.getElem_cons_zero]
        refine late_take (i := 2) (v := ?_) rfl (by kernel_rfl) (by kernel_rfl) (by kernel_rfl) (by kernel_rfl) (fun _ _ _ h => h) (Or.inl ⟨by rfl, ?_⟩) (by assumption) ?_
        rotate_left 1
        · (intro w' hSw; (try dsimp only at hSw); go_simp; try with_reducible rfl)
        try simp only [Act.put, List.setIfInBounds_toArray, List.set_cons_zero, List.set_cons_succ, List.getElem_toArray, List.getElem_cons_succ, List.getElem_cons_zero]
        refine late_take (i := 5) (v := ?_) rfl (by kernel_rfl) (by kernel_rfl) (by kernel_rfl) (by kernel_rfl) (fun _ _ _ h => h) (Or.inl ⟨by rfl, ?_⟩) (by assumption) ?_
        rotate_left 1
        · (intro w' hSw; (try dsimp only at hSw); go_simp; try with_reducible rfl)
        try simp only [Act.put, List.setIfInBounds_toArray, List.set_cons_zero, List.set_cons_succ, List.getElem_toArray, List.getElem_cons_succ, List.getElem_cons_zero]
        refine late_take (i := 6) (v := ?_) rfl (by kernel_rfl) (by kernel_rfl) (by kernel_rfl) (by kernel_rfl) (fun _ _ _ h => h) (Or.inl ⟨by rfl, ?_⟩) (by assumption) ?_
        rotate_left 1
        · (intro w' hSw; (try dsimp only at hSw); go_simp; try with_reducible rfl)
        try simp only [Act.put, List.setIfInBounds_toArray, List.set_cons_zero, List.set_cons_succ, List.getElem_toArray, List.getElem_cons_succ, List.getElem_cons_zero]
        refine late_take (i := 7) (v := ?_) rfl (by kernel_rfl) (by kernel_rfl) (by kernel_rfl) (by kernel_rfl) (fun _ _ _ h => h) (Or.inl ⟨by rfl, ?_⟩) (by assumption) ?_
        rotate_left 1
        · (intro w' hSw; (try dsimp only at hSw); go_simp; try with_reducible rfl)
        try simp only [Act.put, List.setIfInBounds_toArray, List.set_cons_zero, List.set_cons_succ, List.getElem_toArray, List.getElem_cons_succ, List.getElem_cons_zero]
        refine late_take (i := 8) (v := ?_) rfl (by kernel_rfl) (by kernel_rfl) (by kernel_rfl) (by kernel_rfl) (fun _ _ _ h => h) (Or.inl ⟨by rfl, ?_⟩) (by assumption) ?_
        rotate_left 1
        · (intro w' hSw; (try dsimp only at hSw); go_simp; try with_reducible rfl)
        try simp only [Act.put, List.setIfInBounds_toArray, List.set_cons_zero, List.set_cons_succ, List.getElem_toArray, List.getElem_cons_succ, List.getElem_cons_zero]
        refine late_take (i := 9) (v := ?_) rfl (by kernel_rfl) (by kernel_rfl) (by kernel_rfl) (by kernel_rfl) (fun _ _ _ h => h) (Or.inl ⟨by rfl, ?_⟩) (by assumption) ?_
        rotate_left 1
        · (intro w' hSw; (try dsimp only at hSw); go_simp; try with_reducible rfl)
        try simp only [Act.put, List.setIfInBounds_toArray, List.set_cons_zero, List.set_cons_succ, List.getElem_toArray, List.getElem_cons_succ, List.getElem_cons_zero]
        refine late_one (i := 3) (by kernel_rfl) rfl (fun K hK => ?_)
        go_simp
        refine hK.out _ _ (have k' := below_cells (w := wb) (w' := (wb.drew.alloc (.cells #[.int .i64 id, .int .i64 at'] 87))) (by go_grown); ⟨(k' _ _ z5).trans o1, (k' _ _ z2).trans t0, (k' _ _ z3).trans t1⟩) (fun hS => ?_)
        try simp only [Act.put, List.setIfInBounds_toArray, List.set_cons_zero, List.set_cons_succ, List.getElem_toArray, List.getElem_cons_succ, List.getElem_cons_zero]
        refine late_one (i := 4) (by kernel_rfl) rfl (fun K hK => ?_)
        rw [if_pos (by rfl)]
        refine wp_append_own _ _ _ 34 rfl (w3.heap.size + 2) 87 i0 _ 2 16 Try.underlying34 hi hz0 hz1 hz2 rfl (by decide) _ _ _ rfl (hown.drew.alloc _) ⟨wb.heap.size, 0, none⟩ 1 1 [.int .i64 id, .int .i64 at'] rfl rfl (two_news (by go_simp) (by go_simp)) (flat_one' [(id, at')]) (by have := HLl.out; unfold maxLen; omega) (by have := HLl.out; omega) (by simp; omega) ?_
        intro v1 wx hown1 hgr1 hnil1
        obtain ⟨a1, c1', rfl⟩ := own_slice hown1
        have hno : OnlyO (Value.slice ua k uc).ownBlock wb wx := OnlyO.trans (OnlyO.of_below (by go_grown)) (OnlyO.of_grown hgr1)
        have K1 := KP.onlyO hno (fun j e' => by have := (hown.lt j e').1; omega) (fun c hc e' => by simp only [List.mem_cons, List.not_mem_nil, or_false] at hc; have u := (hown.lt _ e').1; rcases hc with rfl | rfl | rfl | rfl | rfl | rfl <;> (simp only at u; omega)) (fun b hb e' => by simp only [List.mem_cons, List.not_mem_nil, or_false] at hb; have u := (hown.lt _ e').1; rcases hb with rfl | rfl <;> omega)
        have fX := f.onlyO hno (by omega) (fun e' => by have := (hown.lt g e').1; omega)
        have hx1 := hno.size
        have ⟨_, _, ⟨_, t01⟩, ⟨_, t11⟩, _, ⟨_, o11⟩, _⟩ := K1.cells
        refine hK.out _ _ ⟨o11, t01, t11⟩ (fun hS => ?_)
        try simp only [Act.put, List.setIfInBounds_toArray, List.set_cons_zero, List.set_cons_succ, List.getElem_toArray, List.getElem_cons_succ, List.getElem_cons_zero]
        refine late_one (i := 10) (by kernel_rfl) rfl (fun K hK => ?_)
        rw [if_pos (by rfl)]
        refine wp_append_own _ _ _ 34 rfl (w3.heap.size + 2) 87 i0 _ 2 16 Try.underlying34 hi hz0 hz1 hz2 rfl (by decide) _ _ _ rfl hown1 ⟨g, k * 2, none⟩ (L.length - k) _ (flat (L.drop k)) rfl (by rw [flat_length, List.length_drop]) (fill_tail fX k) (flat_one' _) (by have := HLl.out; unfold maxLen; omega) (by have := HLl.out; omega) (by omega) ?_
        intro v2 wy hown2 hgr2 hnil2
        obtain ⟨a2, c2', rfl⟩ := own_slice hown2
        have hno2 : OnlyO (Value.slice a1 (k + 1) c1').ownBlock wx wy := OnlyO.of_grown hgr2
        have K2 := K1.onlyO hno2 (fun j e' => by have := (hown1.lt j e').1; omega) (fun c hc e' => by simp only [List.mem_cons, List.not_mem_nil, or_false] at hc; have u := (hown1.lt _ e').1; rcases hc with rfl | rfl | rfl | rfl | rfl | rfl <;> (simp only at u; omega)) (fun b hb e' => by simp only [List.mem_cons, List.not_mem_nil, or_false] at hb; have u := (hown1.lt _ e').1; rcases hb with rfl | rfl <;> omega)
        have ⟨_, _, ⟨_, t02⟩, ⟨_, t12⟩, ⟨_, o02⟩, ⟨_, o12⟩, _⟩ := K2.cells
        have fo2 := (K2.free (w3.heap.size + 1) (by simp)).2
        have KF := (K2.put (w3.heap.size + 1) 1 (.slice a2 (k + 1 + (L.length - k)) c2') (by omega)).to (cs' := [(w.heap.size + 1, 0, .int .i64 0), (w.heap.size + 1, 1, .slice none 0 0), (w3.heap.size, 0, .int .i64 id), (w3.heap.size, 1, .int .i64 at'), (w3.heap.size + 1, 0, .int .i64 now), (w3.heap.size + 1, 1, .slice a2 (k + 1 + (L.length - k)) c2')]) (by simp [putIn]; omega)
        have ow4 := row_set (v := .slice a2 (k + 1 + (L.length - k)) c2') (i := 1) hown2 (show w3.heap.size + 1 < w3.heap.size + 2 by omega)
        refine hK.out _ _ ⟨o12, t02, t12⟩ (fun hS => ?_)
        try simp only [Act.put, List.setIfInBounds_toArray, List.set_cons_zero, List.set_cons_succ, List.getElem_toArray, List.getElem_cons_succ, List.getElem_cons_zero]
        refine late_take (i := 11) (v := ?_) rfl (by kernel_rfl) (by kernel_rfl) (by kernel_rfl) (by kernel_rfl) (fun _ _ _ h => h) (Or.inl ⟨by rfl, ?_⟩) (by assumption) ?_
        rotate_left 1
        · (intro w' hSw; (try dsimp only at hSw); go_simp; try with_reducible rfl)
        try simp only [Act.put, List.setIfInBounds_toArray, List.set_cons_zero, List.set_cons_succ, List.getElem_toArray, List.getElem_cons_succ, List.getElem_cons_zero]
        refine late_last (by kernel_rfl) rfl (by kernel_rfl) (fun K hK => ?_)
        go_simp
        refine hK.out _ _ ?_
        try simp only [Act.put, List.setIfInBounds_toArray, List.set_cons_zero, List.set_cons_succ, List.getElem_toArray, List.getElem_cons_succ, List.getElem_cons_zero]
        obtain ⟨wz, hwz⟩ : ∃ wz, wz = wy.setCell ⟨w3.heap.size + 1, 1, none⟩ (.slice a2 (k + 1 + (L.length - k)) c2') := ⟨_, rfl⟩
        rw [← hwz] at KF ow4 ⊢
        have ⟨⟨_, r0z⟩, ⟨_, r1z⟩, _, _, ⟨_, o0z⟩, ⟨_, o1z⟩, _⟩ := KF.cells
        have frz := (KF.free (w.heap.size + 1) (by simp)).2
        have hbz := KF.hb
        clear hwz
        go_wp2
        refine bodyPost_ret (results_two rfl _ _ _ [.int .i64 now, .slice a2 (k + 1 + (L.length - k)) c2'] rfl (set_two (u0 := .int .i64 0) (u1 := .slice none 0 0) _ _ r0z r1z) Try.underlying36 rfl (by kernel_rfl)) rfl ?_
        have hfin : wz.ownsRow (w3.heap.size + 2) 87 2 (.slice a2 (k + 1 + (L.length - k)) c2') (insOf L (id, at')).length (flat (insOf L (id, at'))) := by
          have e1 : (insOf L (id, at')).length = k + 1 + (L.length - k) := by rw [hins.out]; simp; omega
          rw [e1, hins.out, flat_append, flat_append]
          exact ow4
        have fin2 := row_set (v := .slice a2 (k + 1 + (L.length - k)) c2') (i := 1) (row_set (v := .int .i64 now) (i := 0) hfin (show w.heap.size + 1 < w3.heap.size + 2 by omega)) (show w.heap.size + 1 < w3.heap.size + 2 by omega)
        exact ⟨_, _, _, rfl, row_low fin2 (by omega), by go_grown⟩
theorem specArm_yes {w : World} {now : Int} {a : Option Addr} (cap : Nat) {xs : List (Int × Int)} (id at' : Int) (h : Smp w.heap.size w a xs) (hW : WOk now xs) (hI : idB id = true) (hT : timeB at' = true) (hP : now < at') (hF : (withoutOf id xs).length ≠ 200) :
    Calls Try.prog 20 #[.agg #[.int .i64 now, .slice a xs.length cap], .int .i64 id, .int .i64 at'] w (WheelPost w now (insOf (withoutOf id xs) (id, at')) true) := (specArm_own cap id at' h hW hI hT hP hF).mono fun _ _ k => k.wheel
theorem specArm_zero {w : World} {now : Int} {a : Option Addr} (cap : Nat) {xs : List (Int × Int)} (id at' : Int) (h : Smp w.heap.size w a xs) (hl : (xs.length : Int) ≤ 9223372036854775807) (hW : ¬ (WOk now xs ∧ armOk now id at' = true ∧ (withoutOf id xs).length ≠ 200)) :
    Calls Try.prog 20 #[.agg #[.int .i64 now, .slice a xs.length cap], .int .i64 id, .int .i64 at'] w (ZPost w) := by
  by_cases h1 : WOk now xs
  · cases hI : idB id
    · exact specArm_id cap id at' h h1 hI
    · cases hT : timeB at'
      · exact specArm_time cap id at' h h1 hI hT
      · by_cases hP : at' ≤ now
        · exact specArm_past cap id at' h h1 hI hT hP
        · by_cases hF : (withoutOf id xs).length = 200
          · exact specArm_full cap id at' h h1 hI hT (by omega) hF
          · exact absurd ⟨h1, by unfold armOk; rw [hI, hT, decide_eq_true (by omega)]; rfl, hF⟩ hW
  · exact specArm_bad cap id at' h hl h1
theorem specArm_no {w : World} {now : Int} {a : Option Addr} (cap : Nat) {xs : List (Int × Int)} (id at' : Int) (h : Smp w.heap.size w a xs) (hl : (xs.length : Int) ≤ 9223372036854775807) (hW : ¬ (WOk now xs ∧ armOk now id at' = true ∧ (withoutOf id xs).length ≠ 200)) :
    Calls Try.prog 20 #[.agg #[.int .i64 now, .slice a xs.length cap], .int .i64 id, .int .i64 at'] w (WheelPost w 0 [] false) := (specArm_zero cap id at' h hl hW).mono fun e w' k => by
  obtain ⟨rfl, hb⟩ := k
  exact WheelPost.zero hb
theorem ins_length (L : List (Int × Int)) (x : Int × Int) : (insOf L x).length = L.length + 1 := by
  unfold insOf
  rw [List.length_append, List.length_cons]
  have e := congrArg List.length (List.takeWhile_append_dropWhile (p := fun y => befB y x) (l := L))
  rw [List.length_append] at e
  omega
/-- Whatever comes of it, a wheel whose list is a row of its own. -/
def ArmX (w : World) (now : Int) (e : Ending) (w' : World) : Prop := ∃ s M f a n c, e = .returned (.tuple #[.agg #[.int .i64 s, .slice a n c], .bool f]) ∧ (s = now ∨ s = 0) ∧ M.length ≤ 201 ∧ w'.ownsRow w.heap.size 87 2 (.slice a n c) M.length (flat M) ∧ Below w.heap.size w w'
theorem row_smp {w : World} {base : Nat} {a : Option Addr} {n c : Nat} {L : List (Int × Int)} (h : w.ownsRow base 87 2 (.slice a n c) L.length (flat L)) : n = L.length ∧ Smp w.heap.size w a L := by
  rcases own_fv h with ⟨g, cap, e, h1, h2, f, hc⟩ | ⟨⟨_, e⟩, rfl⟩
  · injection e with e1 e2 e3
    subst e1
    exact ⟨e2, f.smp h2⟩
  · injection e with e1 e2 e3
    exact ⟨e2, fun i h => by cases h⟩
theorem specArm_tot {w : World} {base : Nat} {ua : Option Addr} {un uc : Nat} {L : List (Int × Int)} (now id at' : Int) (h : w.ownsRow base 87 2 (.slice ua un uc) L.length (flat L)) (hl : L.length ≤ 210) :
    Calls Try.prog 20 #[.agg #[.int .i64 now, .slice ua un uc], .int .i64 id, .int .i64 at'] w (ArmX w now) := by
  obtain ⟨rfl, hs⟩ := row_smp h
  by_cases hW : WOk now L ∧ armOk now id at' = true ∧ (withoutOf id L).length ≠ 200
  · obtain ⟨h1, h2, h3⟩ := hW
    unfold armOk at h2
    rw [Bool.and_eq_true, Bool.and_eq_true] at h2
    refine (specArm_own uc id at' hs h1 h2.1.1 h2.1.2 (of_decide_eq_true h2.2) h3).mono ?_
    rintro e w' ⟨a, n, c, rfl, ho, hb⟩
    exact ⟨now, _, true, a, n, c, rfl, .inl rfl, by rw [ins_length]; have := without_le id L; have := h1.2.1; omega, ho, hb⟩
  · refine (specArm_zero uc id at' hs (by omega) hW).mono ?_
    rintro e w' ⟨rfl, hb⟩
    exact ⟨0, [], false, none, 0, 0, rfl, .inr rfl, by simp, World.ownsRow_nil _ _ _ _, hb⟩
end Go.Proofs.Ytdgefdjgpneanac

/- Wheels: a number and a list of timers. How one that came in is opened; the laws' copies, comparisons and marks. -/
import Derived.Test.YtcmgaaopkhjelakTim
import Derived.Test.YtcmgaaopkhjelakOwnW
namespace Go.Proofs.Ytcmgaaopkhjelak
open Go.ChangeShapes Go.WideShapes Go.ChangeAt Go.RowKit
set_option maxRecDepth 100000
set_option linter.unusedVariables false

theorem cells_wheel : Try.prog.cellsOf 24 = 2 := by kernel_rfl
theorem cells_timer : Try.prog.cellsOf 65 = 2 := by kernel_rfl
theorem cells_int : Try.prog.cellsOf 2 = 1 := by kernel_rfl
theorem cells_tims : Try.prog.cellsOf 22 = 1 := by kernel_rfl
set_option maxRecDepth 100000 in
theorem open_wheel {H : Type} {enc : TypeId × Value → H} {w : World} {sp : Nat → Bool} {held : Bool} {r : Reach} {b0 : Nat} {v : Value} {d : DataW H} {ps : List MemPlace}
    (hv : Value.okWide Try.prog w r b0 24 v) (h : DataW.Trod enc Try.prog w 0 sp held 24 v d ps) :
    ∃ (t : Int) (a : Option Addr) (cap : Nat) (xs : List (Int × Int)), v = .agg #[.int .i64 t, .slice a xs.length cap] ∧ I64 t ∧ Smp w.heap.size w a xs ∧ (∀ x ∈ xs, I64 x.1 ∧ I64 x.2) ∧ (a = none → xs = [] ∧ cap = 0) ∧ xs.length ≤ cap ∧ cap ≤ maxLen := by
  have hv' := hv
  unfold Value.okWide at hv'
  rw [Try.underlying24] at hv'
  obtain ⟨cs, rfl, hsz, _⟩ := hv'
  rw [cells_wheel] at hsz
  obtain ⟨n, hn⟩ := h
  obtain ⟨y0, y1, m, _, hl, h0, h1⟩ := trod_struct2 Try.underlying24 hn
  obtain ⟨u0, u1, rfl⟩ : ∃ u0 u1, cs = #[u0, u1] := by
    match cs, hsz with
    | ⟨[u0, u1]⟩, _ => exact ⟨u0, u1, rfl⟩
  have k0 : DataW.trod enc Try.prog w 0 sp held m 2 (List.take (Try.prog.cellsOf 2) (List.drop 0 [u0, u1])) = some y0 := h0
  have k1 : DataW.trod enc Try.prog w 0 sp held m 22 (List.take (Try.prog.cellsOf 22) (List.drop 1 [u0, u1])) = some y1 := h1
  rw [cells_int] at k0
  rw [cells_tims] at k1
  obtain ⟨t, e0, _, w0⟩ := DataW.trod_int Try.underlying2 k0
  simp only [List.drop_zero, List.take_succ_cons, List.take_zero, List.cons.injEq, and_true] at e0
  subst e0
  have k1' : DataW.trod enc Try.prog w 0 sp held m 22 [u1] = some y1 := k1
  obtain ⟨a, cap, xs, rfl, k⟩ := open_pairs Try.underlying22 Try.underlying65 Try.underlying2 Try.underlying2 rfl rfl cells_int cells_int cells_timer k1'
  exact ⟨t, a, cap, xs, rfl, bounds_i64 w0, k⟩
theorem szWheel_any (t : Int) (a : Option Addr) (n cap : Nat) (w : World) (hn : (n : Int) ≤ 9223372036854775807) :
    Calls Try.prog 8 #[.agg #[.int .i64 t, .slice a n cap], .int .i64 1048576] w fun e w' => e = .returned (.int .i64 (if n ≤ 1048576 then 1048576 - (n : Int) else -1)) ∧ Below w.heap.size w w' := by
  by_cases h : n ≤ 1048576
  · rw [if_pos h]
    have h1 : (0 : Int) ≤ 1048576 - (n : Int) := by omega
    go_enter Try.func8, Try.ntmps8
    go_wp2
    go_ret
    exact ⟨rfl, by go_grown⟩
  · rw [if_neg h]
    have h1 : (1048576 : Int) - (n : Int) < 0 := by omega
    go_enter Try.func8, Try.ntmps8
    go_wp2
    go_ret
    exact ⟨rfl, by go_grown⟩
theorem set_two {w : World} {g : Nat} {u0 u1 : Value} (a b : Value) (h0 : w.cell? ⟨g, 0, none⟩ = some u0) (h1 : w.cell? ⟨g, 1, none⟩ = some u1) :
    ∀ j v, [a, b][j]? = some v → ((w.setCell ⟨g, 0, none⟩ a).setCell ⟨g, 1, none⟩ b).cell? ⟨g, j, none⟩ = some v := by
  have other : ∀ (x : World) (i k : Nat) (v : Value), i ≠ k → (x.setCell ⟨g, i, none⟩ v).cell? ⟨g, k, none⟩ = x.cell? ⟨g, k, none⟩ := fun x i k v h => World.cell?_setCell_other _ _ _ _ (fun e => h (by injection e with _ e _))
  exact cells_two ((other _ 1 0 _ (by decide)).trans (set_same _ h0)) (set_same _ ((other _ 0 1 _ (by decide)).trans h1))
set_option maxHeartbeats 1000000 in
theorem toWheel_any {w : World} (t : Int) {a : Option Addr} (cap : Nat) {xs : List (Int × Int)} (h : Smp w.heap.size w a xs) (hn : xs.length ≤ 1048576) :
    Calls Try.prog 10 #[.agg #[.int .i64 t, .slice a xs.length cap]] w fun e w' => ∃ g, e = .returned (.agg #[.int .i64 t, .slice (some ⟨g, 0, none⟩) xs.length xs.length]) ∧ w.heap.size ≤ g ∧ g < w'.heap.size ∧ Fill w' g xs.length xs xs.length ∧ Below w.heap.size w w' := by
  go_enter Try.func10, Try.ntmps10
  go_wp2_with (first
    | (go_at_call 30; refine (toTimerS_any cap ((h.mono (by go_grown)).up (by simp; omega)) hn).mono ?_; rintro e w2 ⟨g, rfl, hg0, hg1, f, hb2⟩; have kc := below_cells hb2; have kf := below_frozens hb2))
  simp only [World.size_alloc] at hg0
  refine bodyPost_ret (results_one rfl _ _ _ [.int .i64 t, .slice (some ⟨g, 0, none⟩) xs.length xs.length] rfl (set_two (u0 := .int .i64 0) (u1 := .slice none 0 0) _ _ ?_ ?_) Try.underlying29 rfl (by kernel_rfl)) rfl ?_
  · rw [set_far (by simp), kc _ _ (by simp)]; go_simp
  · rw [set_far (by simp), kc _ _ (by simp)]; go_simp
  · refine ⟨g, rfl, by omega, by simpa using hg1, ((f.far _ (by simp; omega)).far _ (by simp; omega)).far _ (by simp; omega), ?_⟩
    exact ((((by go_grown : Below w.heap.size w _).trans (hb2.mono (by simp; omega))).setCell (by simp; omega) _).setCell (by simp) _).setCell (by simp) _
theorem eqWheel_any {w : World} (t t' : Int) {a b : Option Addr} (cap cap' : Nat) {xs ys : List (Int × Int)} (ha : Smp w.heap.size w a xs) (hb : Smp w.heap.size w b ys) (hn : xs.length ≤ 4611686018427387904) :
    Calls Try.prog 12 #[.agg #[.int .i64 t, .slice a xs.length cap], .agg #[.int .i64 t', .slice b ys.length cap']] w fun e w' => e = .returned (.bool (decide (t = t') && decide (xs = ys))) ∧ Below w.heap.size w w' := by
  by_cases ht : t = t'
  · rw [decide_eq_true ht, Bool.true_and]
    subst ht
    obtain ⟨d, hd⟩ : ∃ d, decide (xs = ys) = d := ⟨_, rfl⟩
    have HD : Hid (decide (xs = ys) = d) := hd
    rw [hd]
    clear hd
    cases d
    all_goals
      go_enter Try.func12, Try.ntmps12
      go_wp2_with (first
        | (go_at_call 38; refine (eqTimerS_any cap cap' ((ha.mono (by go_grown)).up (by simp; omega)) ((hb.mono (by go_grown)).up (by simp; omega)) hn).mono ?_; rintro e w2 ⟨rfl, hb2⟩; rw [HD.out]))
      go_ret
      exact ⟨rfl, (by go_grown : Below w.heap.size w _).trans (hb2.mono (by simp; omega))⟩
  · rw [decide_eq_false ht, Bool.false_and]
    have ht' : (t == t') = false := by simp [ht]
    go_enter Try.func12, Try.ntmps12
    go_wp2
    go_ret
    exact ⟨rfl, by go_grown⟩
theorem fw_nil (w : World) (a : Option Addr) : Smp w.heap.size w a [] := fun i h => by cases h
theorem eqW_any {w : World} (t t' : Int) {lo lo' : Nat} {v v' : Value} {xs ys : List (Int × Int)} (ha : FW w lo v xs) (hb : FW w lo' v' ys) (hn : xs.length ≤ 4611686018427387904) :
    Calls Try.prog 12 #[.agg #[.int .i64 t, v], .agg #[.int .i64 t', v']] w fun e w' => e = .returned (.bool (decide (t = t') && decide (xs = ys))) ∧ Below w.heap.size w w' := by
  rcases ha with ⟨g, cap, rfl, h1, h2, f, hc⟩ | ⟨⟨a, rfl⟩, rfl⟩
  · rcases hb with ⟨g', cap', rfl, h1', h2', f', hc'⟩ | ⟨⟨a', rfl⟩, rfl⟩
    · exact eqWheel_any _ _ _ _ (f.smp h2) (f'.smp h2') hn
    · exact eqWheel_any (ys := []) _ _ _ 0 (f.smp h2) (fw_nil w a') hn
  · rcases hb with ⟨g', cap', rfl, h1', h2', f', hc'⟩ | ⟨⟨a', rfl⟩, rfl⟩
    · exact eqWheel_any (xs := []) _ _ 0 _ (fw_nil w a) (f'.smp h2') hn
    · exact eqWheel_any (xs := []) (ys := []) _ _ 0 0 (fw_nil w a) (fw_nil w a') hn
theorem markTNone_any (a : Option Addr) (k : Int) (w : World) (k0 : 0 ≤ k) (k1 : k ≤ 1000000000) :
    Calls Try.prog 41 #[.slice a 0 0, .int .i64 k] w fun e w' => e = .returned (.int .i64 k) ∧ w' = w := by
  go_enter Try.func41, Try.ntmps41
  go_wp2
  refine wp_loop_rounds 1 ?_
  rw [rounds_succ]
  go_wp2
  go_ret
  exact ⟨rfl, rfl⟩
theorem heldTNone_any (a : Option Addr) (k : Int) (w : World) (k0 : 0 ≤ k) (k1 : k ≤ 1000000000) :
    Calls Try.prog 42 #[.slice a 0 0, .int .i64 k] w fun e w' => e = .returned (.int .i64 k) ∧ w' = w := by
  go_enter Try.func42, Try.ntmps42
  go_wp2
  refine wp_loop_rounds 1 ?_
  rw [rounds_succ]
  go_wp2
  go_ret
  exact ⟨rfl, rfl⟩
theorem markW_any {w : World} (t : Int) {lo : Nat} {v : Value} {ys : List (Int × Int)} (k : Int) (f : FW w lo v ys) (hn : ys.length ≤ 1048576) (k0 : 0 ≤ k) (k1 : k ≤ 1000000000) :
    Calls Try.prog 15 #[.agg #[.int .i64 t, v], .int .i64 k] w fun e w' => e = .returned (.int .i64 (k + 2 * ys.length)) ∧ FW w' lo v (marks k ys.length) ∧ OnlyO (roomB v) w w' := by
  rcases f.room with ⟨g, cap, rfl, h1, h2, f, hc⟩ | ⟨⟨a, rfl⟩, rfl⟩
  · go_enter Try.func15, Try.ntmps15
    go_wp2_with (first | (go_at_call 41; refine (markTimerS_any (cap + 1) k (f.mono (new_below _ _) h2) (by simp; omega) hn k0 k1).mono ?_; rintro e w2 ⟨rfl, f2, hO⟩))
    go_ret
    refine ⟨rfl, .inl ⟨g, cap + 1, by rw [marks_length], h1, ?_, ?_, by rw [marks_length]; exact hc⟩, OnlyO.of_only ((Only.of_below (new_below _ _)).trans hO)⟩
    · have := hO.size
      simp at this
      omega
    · rw [marks_length]
      exact f2
  · go_enter Try.func15, Try.ntmps15
    go_wp2_with (first | (go_at_call 41; refine (markTNone_any a k _ k0 k1).mono ?_; rintro e w2 ⟨rfl, rfl⟩))
    go_ret
    exact ⟨ret_int (by simp), .inr ⟨⟨_, rfl⟩, rfl⟩, by rw [room_zero]; exact OnlyO.of_below (new_below _ _)⟩
theorem heldW_any {w : World} (t : Int) {lo n : Nat} {v : Value} (k : Int) (f : FW w lo v (marks k n)) (hn : n ≤ 1048576) (k0 : 0 ≤ k) (k1 : k ≤ 1000000000) :
    Calls Try.prog 16 #[.agg #[.int .i64 t, v], .int .i64 k] w fun e w' => e = .returned (.int .i64 (k + 2 * n)) ∧ Below w.heap.size w w' := by
  rcases f with ⟨g, cap, rfl, h1, h2, f, hc⟩ | ⟨⟨a, rfl⟩, hm⟩
  · rw [marks_length] at f
    rw [marks_length]
    have hpos : ¬ (k + 2 * (n : Int) < 0) := by omega
    go_enter Try.func16, Try.ntmps16
    go_wp2_with (first | (go_at_call 42; refine (heldTimerS_any cap k (f.mono (new_below _ _) h2) hn k0 k1).mono ?_; rintro e w2 ⟨rfl, rfl⟩))
    go_ret
    exact ⟨rfl, new_below _ _⟩
  · have hn0 : n = 0 := by rw [← marks_length k n, hm]; rfl
    subst hn0
    have hpos : ¬ k < 0 := by omega
    go_enter Try.func16, Try.ntmps16
    go_wp2_with (first | (go_at_call 42; refine (heldTNone_any a k _ k0 k1).mono ?_; rintro e w2 ⟨rfl, rfl⟩))
    go_ret
    exact ⟨ret_int (by simp), new_below _ _⟩
end Go.Proofs.Ytcmgaaopkhjelak

/- Places: two numbers and a list of numbers. How one that came in is opened; the laws' sizes, copies, comparisons and marks. -/
import Derived.Test.YtibfclfidaofkasGrpV
import Derived.Test.YtibfclfidaofkasGrpC
import Derived.Test.YtibfclfidaofkasGrpF
namespace Go.Proofs.Ytibfclfidaofkas
open Go.ChangeShapes Go.WideShapes Go.ChangeAt Go.RowKit
set_option maxRecDepth 100000
set_option linter.unusedVariables false
set_option linter.unusedSimpArgs false

theorem cellsP_place : Try.prog.cellsOf 91 = 3 := by kernel_rfl
theorem cellsP_intS : Try.prog.cellsOf 62 = 1 := by kernel_rfl
theorem cellsP_i64 : Try.prog.cellsOf 2 = 1 := by kernel_rfl
theorem open_place {H : Type} {enc : TypeId × Value → H} {w : World} {sp : Nat → Bool} {held : Bool} {r : Reach} {b0 : Nat} {v : Value} {d : DataW H} {ps : List MemPlace}
    (hv : Value.okWide Try.prog w r b0 91 v) (h : DataW.Trod enc Try.prog w 0 sp held 91 v d ps) :
    ∃ (wd fl : Int) (a : Option Addr) (cap : Nat) (xs : List Int), v = .agg #[.int .i64 wd, .int .i64 fl, .slice a xs.length cap] ∧ I64 wd ∧ I64 fl ∧ ISmp w.heap.size w a xs ∧ xs.length ≤ maxLen := by
  have hv' := hv
  unfold Value.okWide at hv'
  rw [Try.underlying91] at hv'
  obtain ⟨cs, rfl, hsz, _⟩ := hv'
  rw [cellsP_place] at hsz
  obtain ⟨n, hn⟩ := h
  obtain ⟨y0, y1, y2, m, _, hl, h0, h1, h2⟩ := Go.Deep.trod_struct3 Try.underlying91 hn
  obtain ⟨u0, u1, u2, rfl⟩ : ∃ u0 u1 u2, cs = #[u0, u1, u2] := by
    match cs, hsz with
    | ⟨[u0, u1, u2]⟩, _ => exact ⟨u0, u1, u2, rfl⟩
  have k0 : DataW.trod enc Try.prog w 0 sp held m 2 (List.take (Try.prog.cellsOf 2) (List.drop 0 [u0, u1, u2])) = some y0 := h0
  have k1 : DataW.trod enc Try.prog w 0 sp held m 2 (List.take (Try.prog.cellsOf 2) (List.drop 1 [u0, u1, u2])) = some y1 := h1
  have k2 : DataW.trod enc Try.prog w 0 sp held m 62 (List.take (Try.prog.cellsOf 62) (List.drop 2 [u0, u1, u2])) = some y2 := h2
  rw [cellsP_i64] at k0 k1
  rw [cellsP_intS] at k2
  have k0' : DataW.trod enc Try.prog w 0 sp held m 2 [u0] = some y0 := k0
  have k1' : DataW.trod enc Try.prog w 0 sp held m 2 [u1] = some y1 := k1
  have k2' : DataW.trod enc Try.prog w 0 sp held m 62 [u2] = some y2 := k2
  obtain ⟨a, cap, xs, rfl, hf, hm⟩ := open_numbers Try.underlying62 Try.underlying2 cellsP_i64 k2'
  obtain ⟨p, e0, _, w0⟩ := DataW.trod_int Try.underlying2 k0'
  obtain ⟨q, e1, _, w1⟩ := DataW.trod_int Try.underlying2 k1'
  obtain rfl : u0 = .int .i64 p := by simpa using e0
  obtain rfl : u1 = .int .i64 q := by simpa using e1
  exact ⟨p, q, a, cap, xs, rfl, bounds_i64 w0, bounds_i64 w1, hf, hm⟩
set_option maxHeartbeats 1000000 in
theorem szPlace_any {wd fl : Int} (a : Option Addr) (n cap : Nat) (w : World) (hn : (n : Int) ≤ 9223372036854775807) : Calls Try.prog 52 #[.agg #[.int .i64 wd, .int .i64 fl, .slice a n cap], .int .i64 1048576] w fun e w' => e = .returned (.int .i64 (if n ≤ 1048576 then 1048576 - (n : Int) else -1)) ∧ Below w.heap.size w w' := by
  by_cases h : n ≤ 1048576
  · have f : (0 : Int) ≤ 1048576 - (n : Int) := by omega
    rw [if_pos h]
    go_enter Try.func52, Try.ntmps52
    go_wp2_with (first
      | (go_at_call 90; refine (szInt64S_gen _ _ _ _ _ hn (by decide) (by decide)).mono ?_; rintro e w2 ⟨rfl, rfl⟩; rw [if_pos (by omega)]))
    go_ret
    exact ⟨rfl, by go_grown⟩
  · rw [if_neg h]
    go_enter Try.func52, Try.ntmps52
    go_wp2_with (first
      | (go_at_call 90; refine (szInt64S_gen _ _ _ _ _ hn (by decide) (by decide)).mono ?_; rintro e w2 ⟨rfl, rfl⟩; rw [if_neg (by omega)]))
    go_ret
    exact ⟨rfl, by go_grown⟩
theorem over3 {w : World} {g : Nat} {u0 u1 u2 : Value} (c0 c1 c2 : Value) (h0 : w.cell? ⟨g, 0, none⟩ = some u0) (h1 : w.cell? ⟨g, 1, none⟩ = some u1) (h2 : w.cell? ⟨g, 2, none⟩ = some u2) :
    ∃ w4, w4 = (((w.setCell ⟨g, 0, none⟩ c0).setCell ⟨g, 1, none⟩ c1).setCell ⟨g, 2, none⟩ c2) ∧ (∀ j v, [c0, c1, c2][j]? = some v → w4.cell? ⟨g, j, none⟩ = some v) ∧ (∀ k o : Nat, w4.frozen? ⟨k, o, none⟩ = w.frozen? ⟨k, o, none⟩) ∧ w4.heap.size = w.heap.size ∧ (∀ B, B ≤ g → Below B w w4) ∧ Only g w w4 :=
  ⟨_, rfl, put3_zero c0 c1 c2 h0 h1 h2, fun k o => by simp, by simp, fun B hB => Below.setCell (Below.setCell (Below.setCell (Below.refl _ _) (p := ⟨g, 0, none⟩) hB _) (p := ⟨g, 1, none⟩) hB _) (p := ⟨g, 2, none⟩) hB _, Only.setCell (Only.setCell (Only.setCell (Only.refl _ _) (p := ⟨g, 0, none⟩) rfl _) (p := ⟨g, 1, none⟩) rfl _) (p := ⟨g, 2, none⟩) rfl _⟩
/-- A Place in a variable. -/
structure Qc (w : World) (b : Nat) (wd fl : Int) (v : Value) : Prop where
  z : b < w.heap.size
  c0 : w.cell? ⟨b, 0, none⟩ = some (.int .i64 wd)
  c1 : w.cell? ⟨b, 1, none⟩ = some (.int .i64 fl)
  c2 : w.cell? ⟨b, 2, none⟩ = some v
theorem Qc.next {w w' : World} {b : Nat} {wd fl : Int} {v : Value} (d : Qc w b wd fl v) (h : Below w.heap.size w w') : Qc w' b wd fl v :=
  ⟨Nat.lt_of_lt_of_le d.z h.size, (h.cell (by exact d.z)).trans d.c0, (h.cell (by exact d.z)).trans d.c1, (h.cell (by exact d.z)).trans d.c2⟩
theorem Qc.onlyO {w w' : World} {b : Nat} {wd fl : Int} {v : Value} {o : Option Nat} (d : Qc w b wd fl v) (h : OnlyO o w w') (hb : o ≠ some b) : Qc w' b wd fl v :=
  ⟨Nat.lt_of_lt_of_le d.z h.size, (h.cell (by exact d.z) (by exact hb)).trans d.c0, (h.cell (by exact d.z) (by exact hb)).trans d.c1, (h.cell (by exact d.z) (by exact hb)).trans d.c2⟩
theorem qc_new (w : World) (wd fl : Int) (v : Value) (ty : TypeId) : Qc (w.alloc (.cells #[.int .i64 wd, .int .i64 fl, v] ty)) w.heap.size wd fl v := ⟨by simp, by go_simp, by go_simp, by go_simp⟩
theorem qc_over {w y : World} {b : Nat} {wd fl : Int} {v : Value} (h : ∀ j u, [.int .i64 wd, .int .i64 fl, v][j]? = some u → y.cell? ⟨b, j, none⟩ = some u) (z : b < w.heap.size) (e : y.heap.size = w.heap.size) : Qc y b wd fl v := ⟨by rw [e]; exact z, h 0 _ rfl, h 1 _ rfl, h 2 _ rfl⟩
theorem IFill.only {w w' : World} {g n k b : Nat} {xs : List Int} (f : IFill w g n xs k) (o : Only b w w') (hg : g < w.heap.size) (hb : g ≠ b) : IFill w' g n xs k :=
  ⟨fun j hj => ⟨by obtain ⟨z, hz⟩ := (f.any j hj).1; exact ⟨z, (o.cell (by exact hg) (by exact hb)).trans hz⟩, (o.frozen (by exact hg) (by exact hb)).trans (f.any j hj).2⟩, fun i hi hk => (o.cell (by exact hg) (by exact hb)).trans (f.got i hi hk)⟩
set_option maxHeartbeats 2000000 in
theorem toPlace_any {wd fl : Int} {w : World} {a : Option Addr} (cap : Nat) {xs : List Int} (h : ISmp w.heap.size w a xs) (hn : xs.length ≤ 1048576) : Calls Try.prog 62 #[.agg #[.int .i64 wd, .int .i64 fl, .slice a xs.length cap]] w fun e w' => ∃ g, e = .returned (.agg #[.int .i64 wd, .int .i64 fl, .slice (some ⟨g, 0, none⟩) xs.length xs.length]) ∧ w.heap.size ≤ g ∧ g < w'.heap.size ∧ IFill w' g xs.length xs xs.length ∧ Below w.heap.size w w' := by
  go_enter Try.func62, Try.ntmps62
  go_upto_region 5 with (first
    | (go_at_call 93; refine (toInt64S_any cap (h.here (by go_grown)) hn).mono ?_; rintro e w2 ⟨g, rfl, hg0, hg1, fg, hb2⟩; have hbw : Below w.heap.size w w2 := below_two (by go_grown) hb2; have zl := hb2.size; (try simp at zl); (try simp at hg0); have kc := below_cells4 hb2; have kf := below_frozens4 hb2; have s0 : w2.cell? ⟨w.heap.size + 1 + 1, 0, none⟩ = some (.int .i64 wd) := (kc _ _ (by simp)).trans (by go_simp); have s1 : w2.cell? ⟨w.heap.size + 1 + 1, 1, none⟩ = some (.int .i64 fl) := (kc _ _ (by simp)).trans (by go_simp); have s2 : w2.cell? ⟨w.heap.size + 1 + 1, 2, none⟩ = some (.slice none 0 0) := (kc _ _ (by simp)).trans (by go_simp); have r0 : w2.cell? ⟨w.heap.size + 1, 0, none⟩ = some (.int .i64 0) := (kc _ _ (by simp; try omega)).trans (by go_simp); have r1 : w2.cell? ⟨w.heap.size + 1, 1, none⟩ = some (.int .i64 0) := (kc _ _ (by simp; try omega)).trans (by go_simp); have r2 : w2.cell? ⟨w.heap.size + 1, 2, none⟩ = some (.slice none 0 0) := (kc _ _ (by simp; try omega)).trans (by go_simp); have f2 : ∀ o : Nat, w2.frozen? ⟨w.heap.size + 1 + 1, o, none⟩ = false := (fun o => (kf _ _ (by simp)).trans (by go_simp)); have f1 : ∀ o : Nat, w2.frozen? ⟨w.heap.size + 1, o, none⟩ = false := (fun o => (kf _ _ (by simp; try omega)).trans (by go_simp)); clear kc kf))
  obtain ⟨x9, hx9⟩ : ∃ x, x = w2.setCell ⟨w.heap.size + 1 + 1, 2, none⟩ (.slice (some ⟨g, 0, none⟩) xs.length xs.length) := ⟨_, rfl⟩
  rw [← hx9]
  have oX : Only (w.heap.size + 1 + 1) w2 x9 := by rw [hx9]; exact (Only.refl _ w2).setCell (p := ⟨w.heap.size + 1 + 1, 2, none⟩) rfl _
  have t0 : x9.cell? ⟨w.heap.size + 1 + 1, 0, none⟩ = some (.int .i64 wd) := by rw [hx9]; exact (set_other4 (by decide)).trans s0
  have t1 : x9.cell? ⟨w.heap.size + 1 + 1, 1, none⟩ = some (.int .i64 fl) := by rw [hx9]; exact (set_other4 (by decide)).trans s1
  have t2 : x9.cell? ⟨w.heap.size + 1 + 1, 2, none⟩ = some (.slice (some ⟨g, 0, none⟩) xs.length xs.length) := by rw [hx9]; exact set_same4 _ s2
  have v0 : x9.cell? ⟨w.heap.size + 1, 0, none⟩ = some (.int .i64 0) := (oX.cell (by show w.heap.size + 1 < _; omega) (by show w.heap.size + 1 ≠ _; omega)).trans r0
  have v1 : x9.cell? ⟨w.heap.size + 1, 1, none⟩ = some (.int .i64 0) := (oX.cell (by show w.heap.size + 1 < _; omega) (by show w.heap.size + 1 ≠ _; omega)).trans r1
  have v2 : x9.cell? ⟨w.heap.size + 1, 2, none⟩ = some (.slice none 0 0) := (oX.cell (by show w.heap.size + 1 < _; omega) (by show w.heap.size + 1 ≠ _; omega)).trans r2
  have f9 : ∀ o : Nat, x9.frozen? ⟨w.heap.size + 1, o, none⟩ = false := fun o => (oX.frozen (by show w.heap.size + 1 < _; omega) (by show w.heap.size + 1 ≠ _; omega)).trans (f1 o)
  have fX : IFill x9 g xs.length xs xs.length := fg.only oX hg1 (by omega)
  have bX : Below w.heap.size w x9 := hbw.trans (oX.below (by omega) (by omega))
  have zX := oX.size
  clear hx9 s0 r0 s1 r1 s2 r2 f1 f2
  go_wp2
  obtain ⟨y, ey, cs, fz, sz, hbel, hon⟩ := over3 (.int .i64 wd) (.int .i64 fl) (.slice (some ⟨g, 0, none⟩) xs.length xs.length) (w := x9) (g := w.heap.size + 1) v0 v1 v2
  rw [← ey]
  refine bodyPost_ret (results_one rfl _ _ _ [.int .i64 wd, .int .i64 fl, .slice (some ⟨g, 0, none⟩) xs.length xs.length] rfl cs Try.underlying67 rfl (by kernel_rfl)) rfl ?_
  exact ⟨g, rfl, by omega, by omega, fX.only hon (by omega) (by omega), bX.trans (hbel _ (by omega))⟩
set_option maxHeartbeats 2000000 in
theorem eqPlace_same {wd fl : Int} {w : World} {lo lo' : Nat} {a a' : Option Addr} {n n' c c' : Nat} {xs : List Int} (ha : IV w lo (.slice a n c) xs) (hb : IV w lo' (.slice a' n' c') xs) (hn : xs.length ≤ 4611686018427387904) : Calls Try.prog 79 #[.agg #[.int .i64 wd, .int .i64 fl, .slice a n c], .agg #[.int .i64 wd, .int .i64 fl, .slice a' n' c']] w fun e w' => e = .returned (.bool true) ∧ Below w.heap.size w w' := by
  have hd : decide (xs = xs) = true := decide_eq_true rfl
  go_enter Try.func79, Try.ntmps79
  go_wp2_with (first
    | (go_at_call 111; refine (eqI_any (ha.next (by go_grown)) (hb.next (by go_grown)) hn).mono ?_; rintro e w2 ⟨rfl, hb2⟩; rw [hd]; have hbw : Below w.heap.size w w2 := below_two (by go_grown) hb2; have kc := below_cells4 hb2; have zl := hb2.size; (try simp at zl)))
  go_ret
  exact ⟨rfl, hbw⟩
end Go.Proofs.Ytibfclfidaofkas

/- The laws' comparisons of flows and Turns. -/
import Derived.Test.YtohenfogiegkmanFlwLaw
namespace Go.Proofs.Ytohenfogiegkman
open Go.ChangeShapes Go.WideShapes Go.ChangeAt Go.RowKit
set_option maxRecDepth 100000
set_option linter.unusedVariables false
set_option linter.unusedSimpArgs false

theorem retB {f g : Bool} (h : f = g) : Ending.returned (.bool f) = .returned (.bool g) := by rw [h]
set_option maxHeartbeats 1000000 in
theorem eqFlow_any {w : World} {a b : Option Addr} (c c' : Nat) (q d q' d' : Int) {xs ys : List Int} (ha : ISmp w.heap.size w a xs) (hb : ISmp w.heap.size w b ys) (hn : xs.length ≤ 4611686018427387904) :
    Calls Try.prog 62 #[.agg #[.int .i64 q, .int .i64 d, .slice a xs.length c], .agg #[.int .i64 q', .int .i64 d', .slice b ys.length c']] w fun e w' => e = .returned (.bool (decide (q = q' ∧ d = d' ∧ xs = ys))) ∧ Below w.heap.size w w' := by
  have nb : Below w.heap.size w ((w.alloc (.cells #[.int .i64 q, .int .i64 d, .slice a xs.length c] 63)).alloc (.cells #[.int .i64 q', .int .i64 d', .slice b ys.length c'] 63)) := by go_grown
  by_cases h1 : q = q'
  · subst h1
    by_cases h2 : d = d'
    · subst h2
      have HE : Hid (decide (q = q ∧ d = d ∧ xs = ys) = decide (xs = ys)) := by show decide (q = q ∧ d = d ∧ xs = ys) = decide (xs = ys); simp
      rw [HE.out]
      obtain ⟨f, hf⟩ : ∃ f, decide (xs = ys) = f := ⟨_, rfl⟩
      have HF : Hid (decide (xs = ys) = f) := hf
      rw [hf]
      clear hf HE
      cases f
      all_goals
        go_enter Try.func62, Try.ntmps62
        go_wp2_with (first | (go_at_call 18; refine (eqInts_any c c' (ha.here nb) (hb.here nb) hn).mono ?_; rintro e w2 ⟨rfl, hb2⟩; rw [HF.out]))
        go_ret
        exact ⟨rfl, below_step nb hb2⟩
    · have h2' : (d == d') = false := by simp [h2]
      rw [decide_eq_false (fun h => h2 h.2.1)]
      go_enter Try.func62, Try.ntmps62
      go_wp2
      go_ret
      exact ⟨rfl, nb⟩
  · have h1' : (q == q') = false := by simp [h1]
    rw [decide_eq_false (fun h => h1 h.1)]
    go_enter Try.func62, Try.ntmps62
    go_wp2
    go_ret
    exact ⟨rfl, nb⟩
set_option maxHeartbeats 2000000 in
theorem eqFlowS_any {w : World} {a b : Option Addr} (cap cap' : Nat) {xs ys : List F8} (ha : Fls w.heap.size w a xs) (hb : Fls w.heap.size w b ys) (hn : xs.length ≤ 4611686018427387904) (hm : ∀ f ∈ xs, f.2.2.length ≤ 4611686018427387904) :
    Calls Try.prog 39 #[.slice a xs.length cap, .slice b ys.length cap'] w fun e w' => e = .returned (.bool (decide (xs = ys))) ∧ Below w.heap.size w w' := by
  by_cases hl : xs.length = ys.length
  · rw [hl]
    have HL : Hid (xs.length = ys.length) := hl
    clear hl
    go_enter Try.func39, Try.ntmps39
    go_wp2
    go_loopw [5] (fun i wr => ∃ k : Nat, i = .int .i64 k ∧ k ≤ ys.length ∧ xs.take k = ys.take k ∧ Below w.heap.size w wr) (fun i _ => ys.length - (intOf i).toNat)
    case atStart => exact ⟨0, rfl, by omega, by simp, by go_grown⟩
    case round =>
      obtain ⟨k, rfl, hk, ht, hbw⟩ := hrel
      by_cases hlt2 : k < ys.length
      · have hlt : k < xs.length := by have := HL.out; omega
        obtain ⟨b1, o1, s1, sc1, rfl, hb1, c0, c1, c2, m1⟩ := ha.at hbw k hlt
        obtain ⟨b2, o2, s2, sc2, rfl, hb2, d0, d1, d2, m2⟩ := hb.at hbw k hlt2
        have hlt' : (k : Int) < (ys.length : Int) := by omega
        have hnn := hn
        have hly := HL.out
        rw [hly] at hnn
        clear hly
        have hp := hm _ (List.getElem_mem hlt)
        obtain ⟨p, hpp⟩ : ∃ p, xs[k] = p := ⟨_, rfl⟩
        obtain ⟨r, hrr⟩ : ∃ r, ys[k] = r := ⟨_, rfl⟩
        rw [hpp] at c0 c1 c2 m1 hp
        rw [hrr] at d0 d1 d2 m2
        have HP : Hid (xs[k] = p) := hpp
        have HQ : Hid (ys[k] = r) := hrr
        clear hpp hrr
        obtain ⟨p0, p1, px⟩ := p
        obtain ⟨r0, r1, rx⟩ := r
        simp only at c0 c1 c2 m1 hp d0 d1 d2 m2
        have HS1 : Hid (ISmp w.heap.size wr.drew s1 px) := m1.mono (Below.refl _ _).drew
        have HS2 : Hid (ISmp w.heap.size wr.drew s2 rx) := m2.mono (Below.refl _ _).drew
        clear m1 m2
        obtain ⟨d, hd⟩ : ∃ d, decide (p0 = r0 ∧ p1 = r1 ∧ px = rx) = d := ⟨_, rfl⟩
        have HD : Hid (decide (p0 = r0 ∧ p1 = r1 ∧ px = rx) = d) := hd
        clear hd
        have hk0 : (0 : Int) ≤ (k : Int) := by omega
        have hw1 : b1 < wr.drew.heap.size := Nat.lt_of_lt_of_le hb1 hbw.size
        have hw2 : b2 < wr.drew.heap.size := Nat.lt_of_lt_of_le hb2 hbw.size
        cases d
        · go_wp2
          go_region_held3 (fun w' => w'.cell? ⟨b1, o1 + k * 3, none⟩ = some (.int .i64 p0) ∧ w'.cell? ⟨b1, o1 + k * 3 + 1, none⟩ = some (.int .i64 p1) ∧ w'.cell? ⟨b1, o1 + k * 3 + 2, none⟩ = some (.slice s1 px.length sc1) ∧ w'.cell? ⟨b2, o2 + k * 3, none⟩ = some (.int .i64 r0) ∧ w'.cell? ⟨b2, o2 + k * 3 + 1, none⟩ = some (.int .i64 r1) ∧ w'.cell? ⟨b2, o2 + k * 3 + 2, none⟩ = some (.slice s2 rx.length sc2)) (go_keep)
            (first | (go_at_call 62; refine (eqFlow_any sc1 sc2 p0 p1 r0 r1 (HS1.out.up (by exact hbw.size)) (HS2.out.up (by exact hbw.size)) hp).mono ?_; rintro e w2 ⟨rfl, hb3⟩; rw [HD.out]; have q0 := (below_cells hb3 _ _ hw1).trans c0; have q1 := (below_cells hb3 _ _ hw1).trans c1; have q2 := (below_cells hb3 _ _ hw1).trans c2; have q3 := (below_cells hb3 _ _ hw2).trans d0; have q4 := (below_cells hb3 _ _ hw2).trans d1; have q5 := (below_cells hb3 _ _ hw2).trans d2; have hbx : Below w.heap.size w w2 := hbw.drew.trans (hb3.mono hbw.size)))
          go_wp2
          go_ret
          refine ⟨retB (decide_eq_false (fun e => of_decide_eq_false HD.out ?_)).symm, hbx⟩
          subst e
          have e2 := HP.out.symm.trans HQ.out
          injection e2 with e3 e4
          injection e4 with e4 e5
          exact ⟨e3, e4, e5⟩
        · go_wp2
          go_region_held3 (fun w' => w'.cell? ⟨b1, o1 + k * 3, none⟩ = some (.int .i64 p0) ∧ w'.cell? ⟨b1, o1 + k * 3 + 1, none⟩ = some (.int .i64 p1) ∧ w'.cell? ⟨b1, o1 + k * 3 + 2, none⟩ = some (.slice s1 px.length sc1) ∧ w'.cell? ⟨b2, o2 + k * 3, none⟩ = some (.int .i64 r0) ∧ w'.cell? ⟨b2, o2 + k * 3 + 1, none⟩ = some (.int .i64 r1) ∧ w'.cell? ⟨b2, o2 + k * 3 + 2, none⟩ = some (.slice s2 rx.length sc2)) (go_keep)
            (first | (go_at_call 62; refine (eqFlow_any sc1 sc2 p0 p1 r0 r1 (HS1.out.up (by exact hbw.size)) (HS2.out.up (by exact hbw.size)) hp).mono ?_; rintro e w2 ⟨rfl, hb3⟩; rw [HD.out]; have q0 := (below_cells hb3 _ _ hw1).trans c0; have q1 := (below_cells hb3 _ _ hw1).trans c1; have q2 := (below_cells hb3 _ _ hw1).trans c2; have q3 := (below_cells hb3 _ _ hw2).trans d0; have q4 := (below_cells hb3 _ _ hw2).trans d1; have q5 := (below_cells hb3 _ _ hw2).trans d2; have hbx : Below w.heap.size w w2 := hbw.drew.trans (hb3.mono hbw.size)))
          go_wp2
          have hx := of_decide_eq_true HD.out
          have ht' : xs.take (k + 1) = ys.take (k + 1) := by
            rw [List.take_succ_eq_append_getElem hlt, List.take_succ_eq_append_getElem hlt2, ht, HP.out, HQ.out, hx.1, hx.2.1, hx.2.2]
          go_roundw
          case rel => exact ⟨k + 1, by go_num, by omega, ht', hbx⟩
          case measure => first | (simp [intOf]; done) | (simp [intOf]; omega)
      · have e : k = ys.length := by omega
        subst e
        have hxy : xs = ys := by
          rw [List.take_length, ← HL.out, List.take_length] at ht; exact ht
        go_wp2
        go_ret
        exact ⟨retB (decide_eq_true hxy).symm, hbw⟩
  · have hlb : ((xs.length : Int) == (ys.length : Int)) = false := by simp; omega
    rw [decide_eq_false (fun e => hl (by rw [e]))]
    go_enter Try.func39, Try.ntmps39
    go_wp2
    go_ret
    exact ⟨rfl, by go_grown⟩
set_option maxHeartbeats 1000000 in
theorem eqTurns_any {w : World} {a b : Option Addr} (c c' : Nat) {xs ys : List F8} (t t' : Int) (f f' : Bool) (ha : Fls w.heap.size w a xs) (hb : Fls w.heap.size w b ys) (hn : xs.length ≤ 4611686018427387904) (hm : ∀ f ∈ xs, f.2.2.length ≤ 4611686018427387904) :
    Calls Try.prog 13 #[turnV a xs.length c t f, turnV b ys.length c' t' f'] w fun e w' => e = .returned (.bool (decide (xs = ys ∧ t = t' ∧ f = f'))) ∧ Below w.heap.size w w' := by
  have C0 : Hid (Kept w [(w.heap.size, 1, .int .i64 t), (w.heap.size, 2, .bool f), (w.heap.size + 1, 1, .int .i64 t'), (w.heap.size + 1, 2, .bool f')] [] ((w.alloc (.cells #[.slice a xs.length c, .int .i64 t, .bool f] 28)).alloc (.cells #[.slice b ys.length c', .int .i64 t', .bool f'] 28))) :=
    ⟨⟨⟨by simp; omega, by go_simp⟩, ⟨by simp; omega, by go_simp⟩, ⟨by simp, by go_simp⟩, ⟨by simp, by go_simp⟩, trivial⟩, (fun b hb => by cases hb), by go_grown⟩
  by_cases h1 : xs = ys
  · have H1 : Hid (decide (xs = ys) = true) := decide_eq_true h1
    by_cases h2 : t = t'
    · by_cases h3 : f = f'
      · rw [decide_eq_true ⟨h1, h2, h3⟩]
        clear h1
        subst h2 h3
        go_enter Try.func13, Try.ntmps13
        go_wp2_with (first
          | (go_at_call 39; refine (eqFlowS_any c c' (ha.here C0.out.hb) (hb.here C0.out.hb) hn hm).mono ?_; rintro e w2 ⟨rfl, hb2⟩; rw [H1.out]; have K2 := C0.out.next hb2; have ⟨⟨kz0, k0⟩, ⟨kz1, k1⟩, ⟨kz2, k2⟩, ⟨kz3, k3⟩, _⟩ := K2.cells; have hb0 := K2.hb; clear K2))
        go_ret
        exact ⟨rfl, hb0⟩
      · rw [decide_eq_false (fun h => h3 h.2.2)]
        have h3' : (f == f') = false := by simp [h3]
        clear h1
        subst h2
        go_enter Try.func13, Try.ntmps13
        go_wp2_with (first
          | (go_at_call 39; refine (eqFlowS_any c c' (ha.here C0.out.hb) (hb.here C0.out.hb) hn hm).mono ?_; rintro e w2 ⟨rfl, hb2⟩; rw [H1.out]; have K2 := C0.out.next hb2; have ⟨⟨kz0, k0⟩, ⟨kz1, k1⟩, ⟨kz2, k2⟩, ⟨kz3, k3⟩, _⟩ := K2.cells; have hb0 := K2.hb; clear K2))
        go_ret
        exact ⟨rfl, hb0⟩
    · rw [decide_eq_false (fun h => h2 h.2.1)]
      have h2' : (t == t') = false := by simp [h2]
      clear h1
      go_enter Try.func13, Try.ntmps13
      go_wp2_with (first
        | (go_at_call 39; refine (eqFlowS_any c c' (ha.here C0.out.hb) (hb.here C0.out.hb) hn hm).mono ?_; rintro e w2 ⟨rfl, hb2⟩; rw [H1.out]; have K2 := C0.out.next hb2; have ⟨⟨kz0, k0⟩, ⟨kz1, k1⟩, ⟨kz2, k2⟩, ⟨kz3, k3⟩, _⟩ := K2.cells; have hb0 := K2.hb; clear K2))
      go_ret
      exact ⟨rfl, hb0⟩
  · have H1 : Hid (decide (xs = ys) = false) := decide_eq_false h1
    rw [decide_eq_false (fun h => h1 h.1)]
    clear h1
    go_enter Try.func13, Try.ntmps13
    go_wp2_with (first
      | (go_at_call 39; refine (eqFlowS_any c c' (ha.here C0.out.hb) (hb.here C0.out.hb) hn hm).mono ?_; rintro e w2 ⟨rfl, hb2⟩; rw [H1.out]; have K2 := C0.out.next hb2; have hb0 := K2.hb; clear K2))
    go_ret
    exact ⟨rfl, hb0⟩
end Go.Proofs.Ytohenfogiegkman

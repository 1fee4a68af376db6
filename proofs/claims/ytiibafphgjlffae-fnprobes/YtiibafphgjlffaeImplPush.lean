/- What impl.Push answers. -/
import Derived.Test.YtiibafphgjlffaeImplPushB
namespace Go.Proofs.Ytiibafphgjlffae
open Go.ChangeShapes Go.WideShapes Go.ChangeAt Go.RowKit
set_option maxRecDepth 100000
set_option linter.unusedVariables false
set_option linter.unusedSimpArgs false

theorem filter_take {α : Type} (f : α → Bool) (xs : List α) : ∀ m, (∀ i (h : i < xs.length), f xs[i] = decide (i < m)) → xs.filter f = xs.take m := by
  induction xs with
  | nil => intro m _; simp
  | cons x xs ih =>
    intro m h
    cases m with
    | zero =>
      have h0 : ∀ y ∈ x :: xs, f y = false := by
        intro y hy
        obtain ⟨i, hi, rfl⟩ := List.getElem_of_mem hy
        rw [h i hi]; simp
      rw [List.take_zero, List.filter_eq_nil_iff]
      intro y hy
      rw [h0 y hy]; simp
    | succ n =>
      have hx : f x = true := (h 0 (by simp)).trans (decide_eq_true (by omega))
      have hr : ∀ i (hi : i < xs.length), f xs[i] = decide (i < n) := fun i hi => (h (i + 1) (by simpa using hi)).trans (by simp)
      rw [List.filter_cons_of_pos hx, List.take_succ_cons, ih n hr]
theorem keep_beat (most : Bool) (p q : Int) (x : Int × Int) : keepB most (p, q) x = beatB most x.2 q := rfl
theorem beat_step {most : Bool} {q : Int} {x y : Int × Int} (h : stepB most x y = true) (hy : beatB most y.2 q = true) : beatB most x.2 q = true := by
  unfold stepB at h
  unfold beatB at hy ⊢
  rw [Bool.and_eq_true] at h
  cases most
  · simp at h hy ⊢; omega
  · simp at h hy ⊢; omega
theorem beat_down {most : Bool} {q : Int} {xs : List (Int × Int)} (hF : FOk most xs) : ∀ (n j : Nat) (hj : j + n < xs.length) (hj' : j < xs.length), beatB most xs[j + n].2 q = true → beatB most xs[j].2 q = true := by
  intro n
  induction n with
  | zero => intro j hj hj' h; exact h
  | succ n ih =>
    intro j hj hj' h
    refine ih j (by omega) hj' (beat_step ((hF.2 (j + (n + 1)) hj hj).2 (j + n) (by omega) (by omega)) h)
theorem back_take {most : Bool} {p q : Int} {xs : List (Int × Int)} {m : Nat} (hF : FOk most xs) (hm : m ≤ xs.length) (hb : BackTo most q xs m) : xs.filter (keepB most (p, q)) = xs.take m := by
  refine filter_take _ _ _ fun i hi => ?_
  rw [keep_beat]
  by_cases h : i < m
  · rw [decide_eq_true h]
    have e := hb.2 (m - 1) (by omega) (by omega)
    refine beat_down hF (m - 1 - i) i (by omega) hi ?_
    have : i + (m - 1 - i) = m - 1 := by omega
    simp only [this]
    exact e
  · rw [decide_eq_false h]
    exact hb.1 i hi (by omega)
theorem implFilterOk_yes {w : World} {a : Option Addr} (cap : Nat) {xs : List (Int × Int)} {most : Bool} (h : Smp w.heap.size w a xs) (hF : FOk most xs) :
    Calls Try.prog 103 #[.agg #[.slice a xs.length cap], .bool most] w fun e w' => e = .returned (.bool true) ∧ Below w.heap.size w w' := by
  refine (implFilterOk_any cap most h).mono ?_
  rintro e w' ⟨f, rfl, hf, hb⟩
  rw [hf.2 hF]
  exact ⟨rfl, hb⟩
theorem implFilterOk_no {w : World} {a : Option Addr} (cap : Nat) {xs : List (Int × Int)} {most : Bool} (h : Smp w.heap.size w a xs) (hF : ¬ FOk most xs) :
    Calls Try.prog 103 #[.agg #[.slice a xs.length cap], .bool most] w fun e w' => e = .returned (.bool false) ∧ Below w.heap.size w w' := by
  refine (implFilterOk_any cap most h).mono ?_
  rintro e w' ⟨f, rfl, hf, hb⟩
  cases f
  · exact ⟨rfl, hb⟩
  · exact absurd (hf.1 rfl) hF
/-- impl.Push's own variables. -/
def PHeld (w : World) (b : Nat) (v : Value) (p q win : Int) (most : Bool) : Prop :=
  b + 4 < w.heap.size ∧ w.cell? ⟨b, 0, none⟩ = some v ∧ w.cell? ⟨b + 1, 0, none⟩ = some (.int .i64 p) ∧ w.cell? ⟨b + 1, 1, none⟩ = some (.int .i64 q) ∧ w.cell? ⟨b + 1 + 1, 0, none⟩ = some (.int .i64 win) ∧ w.cell? ⟨b + 1 + 1 + 1, 0, none⟩ = some (.bool most) ∧
    w.cell? ⟨b + 1 + 1 + 1 + 1, 0, none⟩ = some (.slice none 0 0) ∧ w.frozen? ⟨b + 1 + 1 + 1 + 1, 0, none⟩ = false
theorem PHeld.next {w w' : World} {b : Nat} {v : Value} {p q win : Int} {most : Bool} (h : PHeld w b v p q win most) (hb : Below w.heap.size w w') : PHeld w' b v p q win most := by
  obtain ⟨z, c0, c1, c2, c3, c4, c5, c6⟩ := h
  have := hb.size
  exact ⟨by omega, (below_cells hb _ _ (by omega)).trans c0, (below_cells hb _ _ (by omega)).trans c1, (below_cells hb _ _ (by omega)).trans c2, (below_cells hb _ _ (by omega)).trans c3, (below_cells hb _ _ (by omega)).trans c4, (below_cells hb _ _ (by omega)).trans c5, (below_frozens hb _ _ (by omega)).trans c6⟩
theorem smp_pos {p q : Int} (hs : smpB (p, q) = true) : 0 ≤ p := by
  have h1 : (timeB p && rateB q) = true := hs
  rw [Bool.and_eq_true] at h1
  exact (time_num h1.1).1
theorem Smp.take {B : Nat} {w : World} {a : Option Addr} {xs : List (Int × Int)} (h : Smp B w a xs) (m : Nat) : Smp B w a (xs.take m) := by
  intro i hi
  have hi' : i < xs.length := by rw [List.length_take] at hi; omega
  obtain ⟨b, off, e, hb, c0, c1⟩ := h i hi'
  refine ⟨b, off, e, hb, ?_, ?_⟩
  · rw [List.getElem_take]; exact c0
  · rw [List.getElem_take]; exact c1
theorem Smp.drop {B : Nat} {w : World} {b off : Nat} {M : List (Int × Int)} (h : Smp B w (some ⟨b, off, none⟩) M) (d : Nat) : Smp B w (some ⟨b, off + d * 2, none⟩) (M.drop d) := by
  intro i hi
  have hi' : d + i < M.length := by rw [List.length_drop] at hi; omega
  obtain ⟨b', off', e, hb, c0, c1⟩ := h (d + i) hi'
  cases e
  refine ⟨b, off + d * 2, rfl, hb, ?_, ?_⟩
  · rw [List.getElem_drop, show off + d * 2 + i * 2 = off + (d + i) * 2 by omega]; exact c0
  · rw [List.getElem_drop, show off + d * 2 + i * 2 + 1 = off + (d + i) * 2 + 1 by omega]; exact c1
theorem smp_olds {B : Nat} {w : World} {a : Option Addr} {L : List (Int × Int)} (h : Smp B w a L) : ∀ b, a = some b → ∀ j u, (flat L)[j]? = some u → w.cell? (b.add j) = some u := by
  intro b hb j u hu
  have hj : j < (flat L).length := (List.getElem?_eq_some_iff.1 hu).1
  rw [flat_length] at hj
  obtain ⟨b', off', e, _⟩ := h 0 (by omega)
  obtain rfl : b = ⟨b', off', none⟩ := by rw [e] at hb; injection hb with hb; exact hb.symm
  subst e
  exact smp_news h j u hu
theorem come_back {most : Bool} {p q : Int} {xs : List (Int × Int)} {m : Nat} (hF : FOk most xs) (hm : m ≤ xs.length) (hb : BackTo most q xs m) : comeOf most xs (p, q) = if lastAt (xs.take m) = p then xs.take m else xs.take m ++ [(p, q)] := by
  unfold comeOf
  dsimp only
  rw [back_take hF hm hb]
def IPost (w5 : World) (M : List (Int × Int)) (v : Value) (wd : World) : Prop := ∃ b off c, v = .slice (some ⟨b, off, none⟩) M.length c ∧ Smp wd.heap.size wd (some ⟨b, off, none⟩) M ∧ M.length ≤ c ∧ Below w5.heap.size w5 wd
theorem ipost_own {w5 w6 : World} {L : List (Int × Int)} {p q : Int} {v : Value} {B m : Nat} (hm : L.length = m) (h : w6.ownsRow B 87 2 v (m + 1) (flat L ++ [.int .i64 p, .int .i64 q])) (hb : Below w5.heap.size w5 w6) : IPost w5 (L ++ [(p, q)]) v w6 := by
  subst hm
  have hn : v ≠ .slice none 0 0 := by
    rintro rfl
    rcases h.2 with ⟨_, e⟩ | ⟨g, cap, cur, e, _⟩
    · omega
    · cases e
  obtain ⟨g, cap, rfl, h1, h2, h3, h4⟩ := own_fill (xs := L ++ [(p, q)]) (by rw [flat_append, List.length_append]; exact h) hn
  exact ⟨g, 0, cap, rfl, h3.smp h2, h4, hb⟩
theorem last_take {xs : List (Int × Int)} {m : Nat} {p q : Int} (hs : smpB (p, q) = true) (h : lastAt (xs.take m) = p) : 0 < (xs.take m).length := by
  refine Nat.pos_of_ne_zero fun e => ?_
  have := last_nil (L := xs.take m) (by omega) hs
  rw [decide_eq_true h] at this
  cases this
theorem push_bigI {most : Bool} {xs M : List (Int × Int)} {p q win : Int} {d : Nat} (hM : comeOf most xs (p, q) = M) (hy : youngOf (p - win) M = M.drop d) (hn : 100 < M.length - d) : pushOf most xs (p, q) win = M.drop (d + 1) := by
  unfold pushOf
  dsimp only
  rw [hM, hy, if_pos (by rw [List.length_drop]; omega), List.tail_drop]
theorem push_smallI {most : Bool} {xs M : List (Int × Int)} {p q win : Int} {d : Nat} (hM : comeOf most xs (p, q) = M) (hy : youngOf (p - win) M = M.drop d) (hn : ¬ 100 < M.length - d) : pushOf most xs (p, q) win = M.drop d := by
  unfold pushOf
  dsimp only
  rw [hM, hy, if_neg (by rw [List.length_drop]; omega)]
def ICut (w' : World) (N : List (Int × Int)) (v : Value) (wd : World) : Prop := ∃ b off c, v = .slice (some ⟨b, off, none⟩) N.length c ∧ Smp wd.heap.size wd (some ⟨b, off, none⟩) N ∧ wd = w'
set_option maxHeartbeats 4000000 in
theorem implPush_bad {w : World} {a : Option Addr} (cap : Nat) {xs : List (Int × Int)} (p q win : Int) (most : Bool) (h : Smp w.heap.size w a xs) (hF : ¬ FOk most xs) :
    Calls Try.prog 91 #[.agg #[.slice a xs.length cap], .agg #[.int .i64 p, .int .i64 q], .int .i64 win, .bool most] w (NoPost w) := by
  have HF : Hid (¬ FOk most xs) := hF
  clear hF
  have H0 : Hid (PHeld (((((w.alloc (.cells #[.slice a xs.length cap] 51)).alloc (.cells #[.int .i64 p, .int .i64 q] 87)).alloc (.cells #[.int .i64 win] 2)).alloc (.cells #[.bool most] 4)).alloc (.cells #[.slice none 0 0] 51)) w.heap.size (.slice a xs.length cap) p q win most) := ⟨by simp, by go_simp, by go_simp, by go_simp, by go_simp, by go_simp, by go_simp, by go_simp⟩
  go_enter Try.func91, Try.ntmps91
  go_wp2_with (first
    | (go_at_call 103; refine (implFilterOk_no cap (h.here (by go_grown)) HF.out).mono ?_; rintro e w2 ⟨rfl, hb2⟩; have hbw := below_step (w := w) (by go_grown) hb2; have hx := hb2; have H : Hid (PHeld w2 w.heap.size _ p q win most) := H0.out.next hb2; obtain ⟨z0, k0, k1, k2, k3, k4, k5, k6⟩ := H.out))
  refine bodyPost_ret (results_two rfl _ _ _ [.slice none 0 0] rfl (cells_one (set_same (u := .slice none 0 0) _ k5)) Try.underlying51 rfl (by kernel_rfl)) rfl ?_
  exact ⟨rfl, hbw.setCell (by simp; omega) _⟩
set_option maxHeartbeats 4000000 in
theorem implPush_smp {w : World} {a : Option Addr} (cap : Nat) {xs : List (Int × Int)} (p q win : Int) (most : Bool) (h : Smp w.heap.size w a xs) (hF : FOk most xs) (hs : smpB (p, q) = false) :
    Calls Try.prog 91 #[.agg #[.slice a xs.length cap], .agg #[.int .i64 p, .int .i64 q], .int .i64 win, .bool most] w (NoPost w) := by
  have HF : Hid (FOk most xs) := hF
  clear hF
  have H0 : Hid (PHeld (((((w.alloc (.cells #[.slice a xs.length cap] 51)).alloc (.cells #[.int .i64 p, .int .i64 q] 87)).alloc (.cells #[.int .i64 win] 2)).alloc (.cells #[.bool most] 4)).alloc (.cells #[.slice none 0 0] 51)) w.heap.size (.slice a xs.length cap) p q win most) := ⟨by simp, by go_simp, by go_simp, by go_simp, by go_simp, by go_simp, by go_simp, by go_simp⟩
  go_enter Try.func91, Try.ntmps91
  go_wp2_with (first
    | (go_at_call 103; refine (implFilterOk_yes cap (h.here (by go_grown)) HF.out).mono ?_; rintro e w2 ⟨rfl, hb2⟩; have hbw := below_step (w := w) (by go_grown) hb2; have hx := hb2; have H : Hid (PHeld w2 w.heap.size _ p q win most) := H0.out.next hb2; obtain ⟨z0, k0, k1, k2, k3, k4, k5, k6⟩ := H.out)
    | (go_at_call 116; refine (ismp_any _ _ _).mono ?_; rintro e w3 ⟨rfl, hb2⟩; rw [hs]; have hbw := below_step hbw hb2; have hx := below_step hx hb2; have H : Hid (PHeld w3 w.heap.size _ p q win most) := H.out.next hb2; obtain ⟨z0, k0, k1, k2, k3, k4, k5, k6⟩ := H.out))
  refine bodyPost_ret (results_two rfl _ _ _ [.slice none 0 0] rfl (cells_one (set_same (u := .slice none 0 0) _ k5)) Try.underlying51 rfl (by kernel_rfl)) rfl ?_
  exact ⟨rfl, hbw.setCell (by simp; omega) _⟩
set_option maxHeartbeats 4000000 in
theorem implPush_win {w : World} {a : Option Addr} (cap : Nat) {xs : List (Int × Int)} (p q win : Int) (most : Bool) (h : Smp w.heap.size w a xs) (hF : FOk most xs) (hs : smpB (p, q) = true) (ht : timeB win = false) :
    Calls Try.prog 91 #[.agg #[.slice a xs.length cap], .agg #[.int .i64 p, .int .i64 q], .int .i64 win, .bool most] w (NoPost w) := by
  have HF : Hid (FOk most xs) := hF
  clear hF
  have H0 : Hid (PHeld (((((w.alloc (.cells #[.slice a xs.length cap] 51)).alloc (.cells #[.int .i64 p, .int .i64 q] 87)).alloc (.cells #[.int .i64 win] 2)).alloc (.cells #[.bool most] 4)).alloc (.cells #[.slice none 0 0] 51)) w.heap.size (.slice a xs.length cap) p q win most) := ⟨by simp, by go_simp, by go_simp, by go_simp, by go_simp, by go_simp, by go_simp, by go_simp⟩
  go_enter Try.func91, Try.ntmps91
  go_wp2_with (first
    | (go_at_call 103; refine (implFilterOk_yes cap (h.here (by go_grown)) HF.out).mono ?_; rintro e w2 ⟨rfl, hb2⟩; have hbw := below_step (w := w) (by go_grown) hb2; have hx := hb2; have H : Hid (PHeld w2 w.heap.size _ p q win most) := H0.out.next hb2; obtain ⟨z0, k0, k1, k2, k3, k4, k5, k6⟩ := H.out)
    | (go_at_call 116; refine (ismp_any _ _ _).mono ?_; rintro e w3 ⟨rfl, hb2⟩; rw [hs]; have hbw := below_step hbw hb2; have hx := below_step hx hb2; have H : Hid (PHeld w3 w.heap.size _ p q win most) := H.out.next hb2; obtain ⟨z0, k0, k1, k2, k3, k4, k5, k6⟩ := H.out)
    | (go_at_call 59; refine (itime_any _ _).mono ?_; rintro e w4 ⟨rfl, rfl⟩; rw [ht]))
  refine bodyPost_ret (results_two rfl _ _ _ [.slice none 0 0] rfl (cells_one (set_same (u := .slice none 0 0) _ k5)) Try.underlying51 rfl (by kernel_rfl)) rfl ?_
  exact ⟨rfl, hbw.setCell (by simp; omega) _⟩
set_option maxHeartbeats 4000000 in
theorem implPush_late {w : World} {a : Option Addr} (cap : Nat) {xs : List (Int × Int)} (p q win : Int) (most : Bool) (h : Smp w.heap.size w a xs) (hF : FOk most xs) (hs : smpB (p, q) = true) (ht : timeB win = true) (hl : p < lastAt xs) :
    Calls Try.prog 91 #[.agg #[.slice a xs.length cap], .agg #[.int .i64 p, .int .i64 q], .int .i64 win, .bool most] w (NoPost w) := by
  have HF : Hid (FOk most xs) := hF
  have hF100 := hF.1
  have hp0 := smp_pos hs
  clear hF
  have H0 : Hid (PHeld (((((w.alloc (.cells #[.slice a xs.length cap] 51)).alloc (.cells #[.int .i64 p, .int .i64 q] 87)).alloc (.cells #[.int .i64 win] 2)).alloc (.cells #[.bool most] 4)).alloc (.cells #[.slice none 0 0] 51)) w.heap.size (.slice a xs.length cap) p q win most) := ⟨by simp, by go_simp, by go_simp, by go_simp, by go_simp, by go_simp, by go_simp, by go_simp⟩
  go_enter Try.func91, Try.ntmps91
  go_wp2_with (first
    | (go_at_call 103; refine (implFilterOk_yes cap (h.here (by go_grown)) HF.out).mono ?_; rintro e w2 ⟨rfl, hb2⟩; have hbw := below_step (w := w) (by go_grown) hb2; have hx := hb2; have H : Hid (PHeld w2 w.heap.size _ p q win most) := H0.out.next hb2; obtain ⟨z0, k0, k1, k2, k3, k4, k5, k6⟩ := H.out)
    | (go_at_call 116; refine (ismp_any _ _ _).mono ?_; rintro e w3 ⟨rfl, hb2⟩; rw [hs]; have hbw := below_step hbw hb2; have hx := below_step hx hb2; have H : Hid (PHeld w3 w.heap.size _ p q win most) := H.out.next hb2; obtain ⟨z0, k0, k1, k2, k3, k4, k5, k6⟩ := H.out)
    | (go_at_call 59; refine (itime_any _ _).mono ?_; rintro e w4 ⟨rfl, rfl⟩; rw [ht])
    | (go_at_call 117; refine (before_any cap p (h.here hbw) hF100 hp0).mono ?_; rintro e w4 ⟨rfl, rfl⟩))
  refine bodyPost_ret (results_two rfl _ _ _ [.slice none 0 0] rfl (cells_one (set_same (u := .slice none 0 0) _ k5)) Try.underlying51 rfl (by kernel_rfl)) rfl ?_
  exact ⟨rfl, hbw.setCell (by simp; omega) _⟩
set_option maxHeartbeats 8000000 in
theorem implPush_ok {w : World} {a : Option Addr} (cap : Nat) {xs : List (Int × Int)} (p q win : Int) (most : Bool) (h : Smp w.heap.size w a xs) (hlc : xs.length ≤ cap) (hn : a = none → cap = 0) (hF : FOk most xs) (hs : smpB (p, q) = true) (ht : timeB win = true) (hl : lastAt xs ≤ p) :
    Calls Try.prog 91 #[.agg #[.slice a xs.length cap], .agg #[.int .i64 p, .int .i64 q], .int .i64 win, .bool most] w (YesPost w (pushOf most xs (p, q) win)) := by
  obtain ⟨i0, hi, hz0, hz1, hz2⟩ := info_parts info_smp
  have HF : Hid (FOk most xs) := hF
  have hF100 := hF.1
  have hp0 := smp_pos hs
  have hpq : (timeB p && rateB q) = true := hs
  have np := time_num ((Bool.and_eq_true _ _ ▸ hpq).1 : timeB p = true)
  have nw := time_num ht
  have hpw : IntKind.i64.wrap (p - win) = p - win := by rw [IntKind.wrap_i64]; omega
  have hl' : ¬ p < lastAt xs := by omega
  clear hF hpq
  have H0 : Hid (PHeld (((((w.alloc (.cells #[.slice a xs.length cap] 51)).alloc (.cells #[.int .i64 p, .int .i64 q] 87)).alloc (.cells #[.int .i64 win] 2)).alloc (.cells #[.bool most] 4)).alloc (.cells #[.slice none 0 0] 51)) w.heap.size (.slice a xs.length cap) p q win most) := ⟨by simp, by go_simp, by go_simp, by go_simp, by go_simp, by go_simp, by go_simp, by go_simp⟩
  go_enter Try.func91, Try.ntmps91
  go_wp2_with (first
    | (go_at_call 103; refine (implFilterOk_yes cap (h.here (by go_grown)) HF.out).mono ?_; rintro e w2 ⟨rfl, hb2⟩; have hbw := below_step (w := w) (by go_grown) hb2; have hx := hb2; have H : Hid (PHeld w2 w.heap.size _ p q win most) := H0.out.next hb2; obtain ⟨z0, k0, k1, k2, k3, k4, k5, k6⟩ := H.out)
    | (go_at_call 116; refine (ismp_any _ _ _).mono ?_; rintro e w3 ⟨rfl, hb2⟩; rw [hs]; have hbw := below_step hbw hb2; have hx := below_step hx hb2; have H : Hid (PHeld w3 w.heap.size _ p q win most) := H.out.next hb2; obtain ⟨z0, k0, k1, k2, k3, k4, k5, k6⟩ := H.out)
    | (go_at_call 59; refine (itime_any _ _).mono ?_; rintro e w4 ⟨rfl, rfl⟩; rw [ht])
    | (go_at_call 117; refine (before_any cap p (h.here hbw) hF100 hp0).mono ?_; rintro e w4 ⟨rfl, rfl⟩)
    | (go_at_call 118; refine (wlast_any (h.here hbw) hF100 hlc hn k2 k4 (by omega) (by omega)).mono ?_; rintro e w5 ⟨m, rfl, hm, hback, hb5⟩; have hbw := below_step hbw hb5; have H : Hid (PHeld w5 w.heap.size _ p q win most) := H.out.next hb5; obtain ⟨z0, k0, k1, k2, k3, k4, k5, k6⟩ := H.out))
  obtain ⟨L, hL⟩ : ∃ L, xs.take m = L := ⟨_, rfl⟩
  have hLm : L.length = m := by rw [← hL, List.length_take]; omega
  have sL := (h.here hbw).take m
  rw [hL] at sL
  have HC : Hid (comeOf most xs (p, q) = if lastAt L = p then L else L ++ [(p, q)]) := by rw [← hL]; exact come_back HF.out hm hback
  have HL : Hid (L.length = m) := hLm
  have HP : Hid (lastAt L = p → 0 < L.length) := by rw [← hL]; exact last_take hs
  have hnm : a = none → m = 0 := fun e => by have := hn e; omega
  clear hL hLm hback
  go_cut [52] from 38 (fun s wd => s = .bool (!decide (lastAt L = p)) ∧ wd = w5.drew)
  case first =>
    cases m with
    | zero =>
      have HD : Hid (decide (lastAt L = p) = false) := last_nil (by rw [HL.out]; omega) hs
      refine wp_region_held_drew (S := fun w' => w'.cell? ⟨w.heap.size + 1, 0, none⟩ = some (.int .i64 p)) (by kernel_rfl) (k1) (fun hS => ?_)
      refine wpAnyH_take (i := 0) (v := ?_) rfl (by kernel_rfl) (by kernel_rfl) (by kernel_rfl) (fun _ _ _ h => h) (Or.inl ⟨by rfl, ?_⟩) (by assumption) ?_
      rotate_left 1
      · (intro w' hSw; (try dsimp only at hSw); go_simp; try with_reducible rfl)
      try simp only [Act.put, List.setIfInBounds_toArray, List.set_cons_zero, List.set_cons_succ, List.getElem_toArray, List.getElem_cons_succ, List.getElem_cons_zero]
      refine wpAnyH_take (i := 1) (v := ?_) rfl (by kernel_rfl) (by kernel_rfl) (by kernel_rfl) (fun _ _ _ h => h) (Or.inl ⟨by rfl, ?_⟩) (by assumption) ?_
      rotate_left 1
      · (intro w' hSw; (try dsimp only at hSw); go_simp; try with_reducible rfl)
      try simp only [Act.put, List.setIfInBounds_toArray, List.set_cons_zero, List.set_cons_succ, List.getElem_toArray, List.getElem_cons_succ, List.getElem_cons_zero]
      refine wpAnyH_take (i := 2) (v := ?_) rfl (by kernel_rfl) (by kernel_rfl) (by kernel_rfl) (fun _ _ _ h => h) (Or.inl ⟨by rfl, ?_⟩) (by assumption) ?_
      rotate_left 1
      · (intro w' hSw; (try dsimp only at hSw); go_simp; try with_reducible rfl)
      try simp only [Act.put, List.setIfInBounds_toArray, List.set_cons_zero, List.set_cons_succ, List.getElem_toArray, List.getElem_cons_succ, List.getElem_cons_zero]
      refine wpAnyH_take (i := 3) (v := ?_) rfl (by kernel_rfl) (by kernel_rfl) (by kernel_rfl) (fun _ _ _ h => h) (Or.inl ⟨by rfl, ?_⟩) (by assumption) ?_
      rotate_left 1
      · (intro w' hSw; (try dsimp only at hSw); go_simp; try with_reducible rfl)
      try simp only [Act.put, List.setIfInBounds_toArray, List.set_cons_zero, List.set_cons_succ, List.getElem_toArray, List.getElem_cons_succ, List.getElem_cons_zero]
      refine wpAnyH_take (i := 4) (v := undef) rfl (by kernel_rfl) (by kernel_rfl) (by kernel_rfl) (fun _ _ _ h => h) (Or.inr ⟨by rfl, rfl⟩) (by assumption) ?_
      try simp only [Act.put, List.setIfInBounds_toArray, List.set_cons_zero, List.set_cons_succ, List.getElem_toArray, List.getElem_cons_succ, List.getElem_cons_zero]
      refine wpAnyH_take (i := 5) (v := undef) rfl (by kernel_rfl) (by kernel_rfl) (by kernel_rfl) (fun _ _ _ h => h) (Or.inr ⟨by rfl, rfl⟩) (by assumption) ?_
      try simp only [Act.put, List.setIfInBounds_toArray, List.set_cons_zero, List.set_cons_succ, List.getElem_toArray, List.getElem_cons_succ, List.getElem_cons_zero]
      refine wpAnyH_take (i := 6) (v := undef) rfl (by kernel_rfl) (by kernel_rfl) (by kernel_rfl) (fun _ _ _ h => h) (Or.inr ⟨by rfl, rfl⟩) (by assumption) ?_
      try simp only [Act.put, List.setIfInBounds_toArray, List.set_cons_zero, List.set_cons_succ, List.getElem_toArray, List.getElem_cons_succ, List.getElem_cons_zero]
      refine wpAnyH_take (i := 7) (v := undef) rfl (by kernel_rfl) (by kernel_rfl) (by kernel_rfl) (fun _ _ _ h => h) (Or.inr ⟨by rfl, rfl⟩) (by assumption) ?_
      try simp only [Act.put, List.setIfInBounds_toArray, List.set_cons_zero, List.set_cons_succ, List.getElem_toArray, List.getElem_cons_succ, List.getElem_cons_zero]
      refine wpAnyH_take (i := 8) (v := undef) rfl (by kernel_rfl) (by kernel_rfl) (by kernel_rfl) (fun _ _ _ h => h) (Or.inr ⟨by rfl, rfl⟩) (by assumption) ?_
      try simp only [Act.put, List.setIfInBounds_toArray, List.set_cons_zero, List.set_cons_succ, List.getElem_toArray, List.getElem_cons_succ, List.getElem_cons_zero]
      refine wpAnyH_take (i := 9) (v := undef) rfl (by kernel_rfl) (by kernel_rfl) (by kernel_rfl) (fun _ _ _ h => h) (Or.inr ⟨by rfl, rfl⟩) (by assumption) ?_
      try simp only [Act.put, List.setIfInBounds_toArray, List.set_cons_zero, List.set_cons_succ, List.getElem_toArray, List.getElem_cons_succ, List.getElem_cons_zero]
      refine wpAnyH_take (i := 10) (v := undef) rfl (by kernel_rfl) (by kernel_rfl) (by kernel_rfl) (fun _ _ _ h => h) (Or.inr ⟨by rfl, rfl⟩) (by assumption) ?_
      try simp only [Act.put, List.setIfInBounds_toArray, List.set_cons_zero, List.set_cons_succ, List.getElem_toArray, List.getElem_cons_succ, List.getElem_cons_zero]
      refine wpAnyH_take (i := 11) (v := undef) rfl (by kernel_rfl) (by kernel_rfl) (by kernel_rfl) (fun _ _ _ h => h) (Or.inr ⟨by rfl, rfl⟩) (by assumption) ?_
      try simp only [Act.put, List.setIfInBounds_toArray, List.set_cons_zero, List.set_cons_succ, List.getElem_toArray, List.getElem_cons_succ, List.getElem_cons_zero]
      refine wpAnyH_take (i := 12) (v := undef) rfl (by kernel_rfl) (by kernel_rfl) (by kernel_rfl) (fun _ _ _ h => h) (Or.inr ⟨by rfl, rfl⟩) (by assumption) ?_
      try simp only [Act.put, List.setIfInBounds_toArray, List.set_cons_zero, List.set_cons_succ, List.getElem_toArray, List.getElem_cons_succ, List.getElem_cons_zero]
      refine wpAnyH_take (i := 13) (v := undef) rfl (by kernel_rfl) (by kernel_rfl) (by kernel_rfl) (fun _ _ _ h => h) (Or.inr ⟨by rfl, rfl⟩) (by assumption) ?_
      try simp only [Act.put, List.setIfInBounds_toArray, List.set_cons_zero, List.set_cons_succ, List.getElem_toArray, List.getElem_cons_succ, List.getElem_cons_zero]
      refine wpAnyH_take (i := 14) (v := ?_) rfl (by kernel_rfl) (by kernel_rfl) (by kernel_rfl) (fun _ _ _ h => h) (Or.inl ⟨by rfl, ?_⟩) (by assumption) ?_
      rotate_left 1
      · (intro w' hSw; (try dsimp only at hSw); go_simp; try with_reducible rfl)
      try simp only [Act.put, List.setIfInBounds_toArray, List.set_cons_zero, List.set_cons_succ, List.getElem_toArray, List.getElem_cons_succ, List.getElem_cons_zero]
      refine wpAnyH_done (by kernel_rfl) ?_ _
      repeat go_step
      go_meet
      exact ⟨by rw [HD.out]; rfl, rfl⟩
    | succ j =>
      obtain ⟨b, off, rfl, hbl, e0, e1⟩ := sL j (by rw [HL.out]; omega)
      obtain ⟨r, hr⟩ : ∃ r, (L[j]'(by rw [HL.out]; omega)).1 = r := ⟨_, rfl⟩
      rw [hr] at e0
      have HD : Hid (decide (lastAt L = p) = (r == p)) := last_cons HL.out _ hr
      have hj0 : (0 : Int) ≤ (j : Int) := by omega
      have hj1 : (j : Int) < (j : Int) + 1 := by omega
      have hj3 : ((j : Int) + 1 == 0) = false := by simp; omega
      have hjw : IntKind.i64.wrap (j : Int) = (j : Int) := by rw [IntKind.wrap_i64]; omega
      clear hr e1
      refine wp_region_held_drew (S := fun w' => w'.cell? ⟨w.heap.size + 1, 0, none⟩ = some (.int .i64 p) ∧ w'.cell? ⟨b, off + j * 2, none⟩ = some (.int .i64 r)) (by kernel_rfl) (⟨k1, e0⟩) (fun hS => ?_)
      refine wpAnyH_take (i := 0) (v := ?_) rfl (by kernel_rfl) (by kernel_rfl) (by kernel_rfl) (fun _ _ _ h => h) (Or.inl ⟨by rfl, ?_⟩) (by assumption) ?_
      rotate_left 1
      · (intro w' hSw; (try dsimp only at hSw); go_simp; try with_reducible rfl)
      try simp only [Act.put, List.setIfInBounds_toArray, List.set_cons_zero, List.set_cons_succ, List.getElem_toArray, List.getElem_cons_succ, List.getElem_cons_zero]
      refine wpAnyH_take (i := 1) (v := ?_) rfl (by kernel_rfl) (by kernel_rfl) (by kernel_rfl) (fun _ _ _ h => h) (Or.inl ⟨by rfl, ?_⟩) (by assumption) ?_
      rotate_left 1
      · (intro w' hSw; (try dsimp only at hSw); go_simp; try with_reducible rfl)
      try simp only [Act.put, List.setIfInBounds_toArray, List.set_cons_zero, List.set_cons_succ, List.getElem_toArray, List.getElem_cons_succ, List.getElem_cons_zero]
      refine wpAnyH_take (i := 2) (v := ?_) rfl (by kernel_rfl) (by kernel_rfl) (by kernel_rfl) (fun _ _ _ h => h) (Or.inl ⟨by rfl, ?_⟩) (by assumption) ?_
      rotate_left 1
      · (intro w' hSw; (try dsimp only at hSw); go_simp; try with_reducible rfl)
      try simp only [Act.put, List.setIfInBounds_toArray, List.set_cons_zero, List.set_cons_succ, List.getElem_toArray, List.getElem_cons_succ, List.getElem_cons_zero]
      refine wpAnyH_take (i := 3) (v := ?_) rfl (by kernel_rfl) (by kernel_rfl) (by kernel_rfl) (fun _ _ _ h => h) (Or.inl ⟨by rfl, ?_⟩) (by assumption) ?_
      rotate_left 1
      · (intro w' hSw; (try dsimp only at hSw); go_simp; try with_reducible rfl)
      try simp only [Act.put, List.setIfInBounds_toArray, List.set_cons_zero, List.set_cons_succ, List.getElem_toArray, List.getElem_cons_succ, List.getElem_cons_zero]
      refine wpAnyH_take (i := 4) (v := ?_) rfl (by kernel_rfl) (by kernel_rfl) (by kernel_rfl) (fun _ _ _ h => h) (Or.inl ⟨by rfl, ?_⟩) (by assumption) ?_
      rotate_left 1
      · (intro w' hSw; (try dsimp only at hSw); go_simp; try with_reducible rfl)
      try simp only [Act.put, List.setIfInBounds_toArray, List.set_cons_zero, List.set_cons_succ, List.getElem_toArray, List.getElem_cons_succ, List.getElem_cons_zero]
      refine wpAnyH_take (i := 5) (v := ?_) rfl (by kernel_rfl) (by kernel_rfl) (by kernel_rfl) (fun _ _ _ h => h) (Or.inl ⟨by rfl, ?_⟩) (by assumption) ?_
      rotate_left 1
      · (intro w' hSw; (try dsimp only at hSw); go_simp; try with_reducible rfl)
      try simp only [Act.put, List.setIfInBounds_toArray, List.set_cons_zero, List.set_cons_succ, List.getElem_toArray, List.getElem_cons_succ, List.getElem_cons_zero]
      refine wpAnyH_take (i := 6) (v := ?_) rfl (by kernel_rfl) (by kernel_rfl) (by kernel_rfl) (fun _ _ _ h => h) (Or.inl ⟨by rfl, ?_⟩) (by assumption) ?_
      rotate_left 1
      · (intro w' hSw; (try dsimp only at hSw); go_simp; try with_reducible rfl)
      try simp only [Act.put, List.setIfInBounds_toArray, List.set_cons_zero, List.set_cons_succ, List.getElem_toArray, List.getElem_cons_succ, List.getElem_cons_zero]
      refine wpAnyH_take (i := 7) (v := ?_) rfl (by kernel_rfl) (by kernel_rfl) (by kernel_rfl) (fun _ _ _ h => h) (Or.inl ⟨by rfl, ?_⟩) (by assumption) ?_
      rotate_left 1
      · (intro w' hSw; (try dsimp only at hSw); go_simp; try with_reducible rfl)
      try simp only [Act.put, List.setIfInBounds_toArray, List.set_cons_zero, List.set_cons_succ, List.getElem_toArray, List.getElem_cons_succ, List.getElem_cons_zero]
      refine wpAnyH_take (i := 8) (v := ?_) rfl (by kernel_rfl) (by kernel_rfl) (by kernel_rfl) (fun _ _ _ h => h) (Or.inl ⟨by rfl, ?_⟩) (by assumption) ?_
      rotate_left 1
      · (intro w' hSw; (try dsimp only at hSw); go_simp; try with_reducible rfl)
      try simp only [Act.put, List.setIfInBounds_toArray, List.set_cons_zero, List.set_cons_succ, List.getElem_toArray, List.getElem_cons_succ, List.getElem_cons_zero]
      refine wpAnyH_take (i := 9) (v := ?_) rfl (by kernel_rfl) (by kernel_rfl) (by kernel_rfl) (fun _ _ _ h => h) (Or.inl ⟨by rfl, ?_⟩) (by assumption) ?_
      rotate_left 1
      · (intro w' hSw; (try dsimp only at hSw); go_simp; try with_reducible rfl)
      try simp only [Act.put, List.setIfInBounds_toArray, List.set_cons_zero, List.set_cons_succ, List.getElem_toArray, List.getElem_cons_succ, List.getElem_cons_zero]
      refine wpAnyH_take (i := 10) (v := ?_) rfl (by kernel_rfl) (by kernel_rfl) (by kernel_rfl) (fun _ _ _ h => h) (Or.inl ⟨by rfl, ?_⟩) (by assumption) ?_
      rotate_left 1
      · (intro w' hSw; (try dsimp only at hSw); go_simp; try with_reducible rfl)
      try simp only [Act.put, List.setIfInBounds_toArray, List.set_cons_zero, List.set_cons_succ, List.getElem_toArray, List.getElem_cons_succ, List.getElem_cons_zero]
      refine wpAnyH_take (i := 11) (v := ?_) rfl (by kernel_rfl) (by kernel_rfl) (by kernel_rfl) (fun _ _ _ h => h) (Or.inl ⟨by rfl, ?_⟩) (by assumption) ?_
      rotate_left 1
      · (intro w' hSw; (try dsimp only at hSw); go_simp; try with_reducible rfl)
      try simp only [Act.put, List.setIfInBounds_toArray, List.set_cons_zero, List.set_cons_succ, List.getElem_toArray, List.getElem_cons_succ, List.getElem_cons_zero]
      refine wpAnyH_take (i := 12) (v := ?_) rfl (by kernel_rfl) (by kernel_rfl) (by kernel_rfl) (fun _ _ _ h => h) (Or.inl ⟨by rfl, ?_⟩) (by assumption) ?_
      rotate_left 1
      · (intro w' hSw; (try dsimp only at hSw); go_simp; try with_reducible rfl)
      try simp only [Act.put, List.setIfInBounds_toArray, List.set_cons_zero, List.set_cons_succ, List.getElem_toArray, List.getElem_cons_succ, List.getElem_cons_zero]
      refine wpAnyH_take (i := 13) (v := ?_) rfl (by kernel_rfl) (by kernel_rfl) (by kernel_rfl) (fun _ _ _ h => h) (Or.inl ⟨by rfl, ?_⟩) (by assumption) ?_
      rotate_left 1
      · (intro w' hSw; (try dsimp only at hSw); go_simp; try with_reducible rfl)
      try simp only [Act.put, List.setIfInBounds_toArray, List.set_cons_zero, List.set_cons_succ, List.getElem_toArray, List.getElem_cons_succ, List.getElem_cons_zero]
      refine wpAnyH_take (i := 14) (v := ?_) rfl (by kernel_rfl) (by kernel_rfl) (by kernel_rfl) (fun _ _ _ h => h) (Or.inl ⟨by rfl, ?_⟩) (by assumption) ?_
      rotate_left 1
      · (intro w' hSw; (try dsimp only at hSw); go_simp; try with_reducible rfl)
      try simp only [Act.put, List.setIfInBounds_toArray, List.set_cons_zero, List.set_cons_succ, List.getElem_toArray, List.getElem_cons_succ, List.getElem_cons_zero]
      refine wpAnyH_done (by kernel_rfl) ?_ _
      repeat go_step
      go_meet
      exact ⟨by rw [HD.out]; rfl, rfl⟩
  case rest =>
  obtain ⟨rfl, rfl⟩ := hcut
  go_upto_if 52 with fail
  go_cut [10] from 38 (fun v wd => IPost w5 (comeOf most xs (p, q)) v wd)
  case first =>
    by_cases hlp : lastAt L = p
    · have hm' : comeOf most xs (p, q) = L := HC.out.trans (if_pos hlp)
      have hpos := HP.out hlp
      obtain ⟨b, off, rfl, _⟩ := sL 0 hpos
      rw [decide_eq_true hlp, Bool.not_true]
      clear hlp
      go_wp2
      go_meet
      rw [hm']
      exact ⟨b, off, m, by rw [HL.out], sL.here (by go_grown), by rw [HL.out]; omega, by go_grown⟩
    · have hm' : comeOf most xs (p, q) = L ++ [(p, q)] := HC.out.trans (if_neg hlp)
      rw [decide_eq_false hlp, Bool.not_false]
      clear hlp
      go_wp2_with (first
        | (at_builtin; refine wpList_append_grows _ rfl _ _ 117 rfl 87 i0 _ 2 16 Try.underlying117 hi hz0 hz1 hz2 rfl (by decide) a m m (flat L) rfl (fun e => ⟨hnm e, hnm e⟩) ?b1 ?b2 ⟨w5.heap.size, 0, none⟩ 1 1 [.int .i64 p, .int .i64 q] rfl rfl ?b3 ?b4 ?b5 ?b6 ?b7 ?b8; rotate_left 7; intro v' w6 hown6 hgr))
      case b1 => rw [flat_length, HL.out]
      case b2 => exact smp_olds (sL.mono (by go_grown))
      case b3 => exact pair_news (by go_simp) (by go_simp)
      case b4 => exact flat_one' [(p, q)]
      case b5 => omega
      case b6 => unfold maxLen; omega
      case b7 => omega
      go_meet
      rw [hm']
      exact ipost_own HL.out hown6 ((((Below.refl w5.heap.size w5).drew).alloc (Nat.le_refl _) (.cells #[.int .i64 p, .int .i64 q] 87)).grown hgr (by simp) (fun g hg => by cases hg))
  case rest =>
    obtain ⟨M, hM⟩ : ∃ M, comeOf most xs (p, q) = M := ⟨_, rfl⟩
    have HM : Hid (comeOf most xs (p, q) = M) := hM
    rw [hM] at hcut
    clear hM
    obtain ⟨b, off, c, rfl, sM, hcM, hb6⟩ := hcut
    obtain ⟨w6, rfl⟩ : ∃ w6, w6 = wc := ⟨_, rfl⟩
    have hM0 : 0 < M.length := by rw [← HM.out]; exact come_pos hs
    have hM1 : M.length ≤ 101 := by have := come_le (most := most) (xs := xs) (s := (p, q)); rw [HM.out] at this; omega
    have hbw := below_step hbw hb6
    have H : Hid (PHeld w6 w.heap.size _ p q win most) := H.out.next hb6
    obtain ⟨z0, k0, k1, k2, k3, k4, k5, k6⟩ := H.out
    go_upto_if 62 with (first
      | (go_at_call 121; refine (wfirst_any sM hM0 hM1 hcM k1 k3 (by omega) (by omega) hpw).mono ?_; rintro e w7 ⟨d, rfl, hd, hy, hb7⟩; have hbw := below_step hbw hb7; have H : Hid (PHeld w7 w.heap.size _ p q win most) := H.out.next hb7; obtain ⟨z0, k0, k1, k2, k3, k4, k5, k6⟩ := H.out; obtain ⟨n, hnd⟩ : ∃ n, M.length - d = n := ⟨_, rfl⟩; rw [hnd]; have HND : Hid (M.length - d = n) := hnd; have hn1 : n ≤ 101 := (by omega); clear hnd))
    have sD := (sM.here hb7).drop d
    go_cut [10] from 60 (fun v wd => ICut w7 (pushOf most xs (p, q) win) v wd)
    case first =>
      by_cases hbig : 100 < n
      · have hN := push_bigI HM.out hy (by rw [HND.out]; exact hbig)
        have hNl : (pushOf most xs (p, q) win).length = n - 1 := by rw [hN, List.length_drop]; have := HND.out; omega
        have hbi : (100 : Int) < (n : Int) := by omega
        go_wp2_with (first
          | (go_at_call 123; refine (cuts_any b (off + d * 2) _ n 1 n _ (by omega) (Nat.le_refl _)).mono ?_; rintro e w8 ⟨rfl, rfl⟩))
        go_meet
        refine ⟨b, off + d * 2 + 1 * 2, n - 1, by rw [hNl], ?_, rfl⟩
        rw [hN, ← List.drop_drop]
        exact sD.drop 1
      · have hN := push_smallI HM.out hy (by rw [HND.out]; exact hbig)
        have hNl : (pushOf most xs (p, q) win).length = n := by rw [hN, List.length_drop]; exact HND.out
        have hbi : ¬ ((100 : Int) < (n : Int)) := by omega
        go_wp2
        go_meet
        refine ⟨b, off + d * 2, n, by rw [hNl], ?_, rfl⟩
        rw [hN]
        exact sD
    case rest =>
      have hNl : (pushOf most xs (p, q) win).length ≤ 101 := by
        by_cases hbig : 100 < n
        · rw [push_bigI HM.out hy (by rw [HND.out]; exact hbig), List.length_drop]; omega
        · rw [push_smallI HM.out hy (by rw [HND.out]; exact hbig), List.length_drop]; omega
      obtain ⟨N, hNe⟩ : ∃ N, pushOf most xs (p, q) win = N := ⟨_, rfl⟩
      rw [hNe] at hcut hNl
      have HN : Hid (pushOf most xs (p, q) win = N) := hNe
      clear hNe hy sD sM
      obtain ⟨b', off', c', rfl, sN, rfl⟩ := hcut
      go_wp2_with (first
        | (go_at_call 124; refine (clone_any sN hNl rfl).mono ?_; rintro e w9 ⟨g9, cap9, rfl, hg90, hg91, f9, hc9, hb9⟩; have hbw := below_step hbw hb9; have H : Hid (PHeld w9 w.heap.size _ p q win most) := H.out.next hb9; obtain ⟨z0, k0, k1, k2, k3, k4, k5, k6⟩ := H.out))
      refine bodyPost_ret (results_two rfl _ _ _ [.slice (some ⟨g9, 0, none⟩) N.length cap9] rfl (cells_one (set_same (u := .slice none 0 0) _ k5)) Try.underlying51 rfl (by kernel_rfl)) rfl ?_
      rw [HN.out]
      exact ⟨g9, cap9, rfl, by omega, by simpa using hg91, f9.far _ (by simp; omega), hc9, hbw.setCell (by simp; omega) _⟩
end Go.Proofs.Ytiibafphgjlffae

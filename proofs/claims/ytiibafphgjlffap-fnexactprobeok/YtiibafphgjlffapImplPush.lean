/- What impl.Push answers. -/
import Derived.Test.YtiibafphgjlffapImplPushB
namespace Go.Proofs.Ytiibafphgjlffap
open Go.ChangeShapes Go.WideShapes Go.ChangeAt Go.RowKit
set_option maxRecDepth 100000
set_option linter.unusedVariables false
set_option linter.unusedSimpArgs false

theorem filter_take {α : Type} (f : α → Bool) (xs : List α) : ∀ m, (∀ i (h : i < xs.length), f xs[i] = decide (i < m)) → xs.filter f = xs.take m := by
  induction xs with
  | nil => intro m _; simp
  | cons x xs ih =>
    intro m h
    cases m with
    | zero =>
      have h0 : ∀ y ∈ x :: xs, f y = false := by
        intro y hy
        obtain ⟨i, hi, rfl⟩ := List.getElem_of_mem hy
        rw [h i hi]; simp
      rw [List.take_zero, List.filter_eq_nil_iff]
      intro y hy
      rw [h0 y hy]; simp
    | succ n =>
      have hx : f x = true := (h 0 (by simp)).trans (decide_eq_true (by omega))
      have hr : ∀ i (hi : i < xs.length), f xs[i] = decide (i < n) := fun i hi => (h (i + 1) (by simpa using hi)).trans (by simp)
      rw [List.filter_cons_of_pos hx, List.take_succ_cons, ih n hr]
theorem keep_beat (most : Bool) (p q : Int) (x : Int × Int) : keepB most (p, q) x = beatB most x.2 q := rfl
theorem beat_step {most : Bool} {q : Int} {x y : Int × Int} (h : stepB most x y = true) (hy : beatB most y.2 q = true) : beatB most x.2 q = true := by
  unfold stepB at h
  unfold beatB at hy ⊢
  rw [Bool.and_eq_true] at h
  cases most
  · simp at h hy ⊢; omega
  · simp at h hy ⊢; omega
theorem beat_down {most : Bool} {q : Int} {xs : List (Int × Int)} (hF : FOk most xs) : ∀ (n j : Nat) (hj : j + n < xs.length) (hj' : j < xs.length), beatB most xs[j + n].2 q = true → beatB most xs[j].2 q = true := by
  intro n
  induction n with
  | zero => intro j hj hj' h; exact h
  | succ n ih =>
    intro j hj hj' h
    refine ih j (by omega) hj' (beat_step ((hF.2 (j + (n + 1)) hj hj).2 (j + n) (by omega) (by omega)) h)
theorem back_take {most : Bool} {p q : Int} {xs : List (Int × Int)} {m : Nat} (hF : FOk most xs) (hm : m ≤ xs.length) (hb : BackTo most q xs m) : xs.filter (keepB most (p, q)) = xs.take m := by
  refine filter_take _ _ _ fun i hi => ?_
  rw [keep_beat]
  by_cases h : i < m
  · rw [decide_eq_true h]
    have e := hb.2 (m - 1) (by omega) (by omega)
    refine beat_down hF (m - 1 - i) i (by omega) hi ?_
    have : i + (m - 1 - i) = m - 1 := by omega
    simp only [this]
    exact e
  · rw [decide_eq_false h]
    exact hb.1 i hi (by omega)
theorem implFilterOk_yes {w : World} {a : Option Addr} (cap : Nat) {xs : List (Int × Int)} {most : Bool} (h : Smp w.heap.size w a xs) (hF : FOk most xs) :
    Calls Try.prog 51 #[.agg #[.slice a xs.length cap], .bool most] w fun e w' => e = .returned (.bool true) ∧ Below w.heap.size w w' := by
  refine (implFilterOk_any cap most h).mono ?_
  rintro e w' ⟨f, rfl, hf, hb⟩
  rw [hf.2 hF]
  exact ⟨rfl, hb⟩
theorem implFilterOk_no {w : World} {a : Option Addr} (cap : Nat) {xs : List (Int × Int)} {most : Bool} (h : Smp w.heap.size w a xs) (hF : ¬ FOk most xs) :
    Calls Try.prog 51 #[.agg #[.slice a xs.length cap], .bool most] w fun e w' => e = .returned (.bool false) ∧ Below w.heap.size w w' := by
  refine (implFilterOk_any cap most h).mono ?_
  rintro e w' ⟨f, rfl, hf, hb⟩
  cases f
  · exact ⟨rfl, hb⟩
  · exact absurd (hf.1 rfl) hF
/-- impl.Push's own variables. -/
def PHeld (w : World) (b : Nat) (v : Value) (p q win : Int) (most : Bool) : Prop :=
  b + 4 < w.heap.size ∧ w.cell? ⟨b, 0, none⟩ = some v ∧ w.cell? ⟨b + 1, 0, none⟩ = some (.int .i64 p) ∧ w.cell? ⟨b + 1, 1, none⟩ = some (.int .i64 q) ∧ w.cell? ⟨b + 1 + 1, 0, none⟩ = some (.int .i64 win) ∧ w.cell? ⟨b + 1 + 1 + 1, 0, none⟩ = some (.bool most) ∧
    w.cell? ⟨b + 1 + 1 + 1 + 1, 0, none⟩ = some (.slice none 0 0) ∧ w.frozen? ⟨b + 1 + 1 + 1 + 1, 0, none⟩ = false
theorem PHeld.next {w w' : World} {b : Nat} {v : Value} {p q win : Int} {most : Bool} (h : PHeld w b v p q win most) (hb : Below w.heap.size w w') : PHeld w' b v p q win most := by
  obtain ⟨z, c0, c1, c2, c3, c4, c5, c6⟩ := h
  have := hb.size
  exact ⟨by omega, (below_cells hb _ _ (by omega)).trans c0, (below_cells hb _ _ (by omega)).trans c1, (below_cells hb _ _ (by omega)).trans c2, (below_cells hb _ _ (by omega)).trans c3, (below_cells hb _ _ (by omega)).trans c4, (below_cells hb _ _ (by omega)).trans c5, (below_frozens hb _ _ (by omega)).trans c6⟩
theorem smp_pos {p q : Int} (hs : smpB (p, q) = true) : 0 ≤ p := by
  have h1 : (timeB p && rateB q) = true := hs
  rw [Bool.and_eq_true] at h1
  exact (time_num h1.1).1
theorem Smp.take {B : Nat} {w : World} {a : Option Addr} {xs : List (Int × Int)} (h : Smp B w a xs) (m : Nat) : Smp B w a (xs.take m) := by
  intro i hi
  have hi' : i < xs.length := by rw [List.length_take] at hi; omega
  obtain ⟨b, off, e, hb, c0, c1⟩ := h i hi'
  refine ⟨b, off, e, hb, ?_, ?_⟩
  · rw [List.getElem_take]; exact c0
  · rw [List.getElem_take]; exact c1
theorem Smp.drop {B : Nat} {w : World} {b off : Nat} {M : List (Int × Int)} (h : Smp B w (some ⟨b, off, none⟩) M) (d : Nat) : Smp B w (some ⟨b, off + d * 2, none⟩) (M.drop d) := by
  intro i hi
  have hi' : d + i < M.length := by rw [List.length_drop] at hi; omega
  obtain ⟨b', off', e, hb, c0, c1⟩ := h (d + i) hi'
  cases e
  refine ⟨b, off + d * 2, rfl, hb, ?_, ?_⟩
  · rw [List.getElem_drop, show off + d * 2 + i * 2 = off + (d + i) * 2 by omega]; exact c0
  · rw [List.getElem_drop, show off + d * 2 + i * 2 + 1 = off + (d + i) * 2 + 1 by omega]; exact c1
theorem smp_olds {B : Nat} {w : World} {a : Option Addr} {L : List (Int × Int)} (h : Smp B w a L) : ∀ b, a = some b → ∀ j u, (flat L)[j]? = some u → w.cell? (b.add j) = some u := by
  intro b hb j u hu
  have hj : j < (flat L).length := (List.getElem?_eq_some_iff.1 hu).1
  rw [flat_length] at hj
  obtain ⟨b', off', e, _⟩ := h 0 (by omega)
  obtain rfl : b = ⟨b', off', none⟩ := by rw [e] at hb; injection hb with hb; exact hb.symm
  subst e
  exact smp_news h j u hu
theorem come_back {most : Bool} {p q : Int} {xs : List (Int × Int)} {m : Nat} (hF : FOk most xs) (hm : m ≤ xs.length) (hb : BackTo most q xs m) : comeOf most xs (p, q) = if lastAt (xs.take m) = p then xs.take m else xs.take m ++ [(p, q)] := by
  unfold comeOf
  dsimp only
  rw [back_take hF hm hb]
def IPost (w5 : World) (M : List (Int × Int)) (v : Value) (wd : World) : Prop := ∃ b off c, v = .slice (some ⟨b, off, none⟩) M.length c ∧ Smp wd.heap.size wd (some ⟨b, off, none⟩) M ∧ M.length ≤ c ∧ Below w5.heap.size w5 wd
theorem ipost_own {w5 w6 : World} {L : List (Int × Int)} {p q : Int} {v : Value} {B m : Nat} (hm : L.length = m) (h : w6.ownsRow B 88 2 v (m + 1) (flat L ++ [.int .i64 p, .int .i64 q])) (hb : Below w5.heap.size w5 w6) : IPost w5 (L ++ [(p, q)]) v w6 := by
  subst hm
  have hn : v ≠ .slice none 0 0 := by
    rintro rfl
    rcases h.2 with ⟨_, e⟩ | ⟨g, cap, cur, e, _⟩
    · omega
    · cases e
  obtain ⟨g, cap, rfl, h1, h2, h3, h4⟩ := own_fill (xs := L ++ [(p, q)]) (by rw [flat_append, List.length_append]; exact h) hn
  exact ⟨g, 0, cap, rfl, h3.smp h2, h4, hb⟩
theorem last_take {xs : List (Int × Int)} {m : Nat} {p q : Int} (hs : smpB (p, q) = true) (h : lastAt (xs.take m) = p) : 0 < (xs.take m).length := by
  refine Nat.pos_of_ne_zero fun e => ?_
  have := last_nil (L := xs.take m) (by omega) hs
  rw [decide_eq_true h] at this
  cases this
theorem push_bigI {most : Bool} {xs M : List (Int × Int)} {p q win : Int} {d : Nat} (hM : comeOf most xs (p, q) = M) (hy : youngOf (p - win) M = M.drop d) (hn : 100 < M.length - d) : pushOf most xs (p, q) win = M.drop (d + 1) := by
  unfold pushOf
  dsimp only
  rw [hM, hy, if_pos (by rw [List.length_drop]; omega), List.tail_drop]
theorem push_smallI {most : Bool} {xs M : List (Int × Int)} {p q win : Int} {d : Nat} (hM : comeOf most xs (p, q) = M) (hy : youngOf (p - win) M = M.drop d) (hn : ¬ 100 < M.length - d) : pushOf most xs (p, q) win = M.drop d := by
  unfold pushOf
  dsimp only
  rw [hM, hy, if_neg (by rw [List.length_drop]; omega)]
def ICut (w' : World) (N : List (Int × Int)) (v : Value) (wd : World) : Prop := ∃ b off c, v = .slice (some ⟨b, off, none⟩) N.length c ∧ Smp wd.heap.size wd (some ⟨b, off, none⟩) N ∧ wd = w'
end Go.Proofs.Ytiibafphgjlffap

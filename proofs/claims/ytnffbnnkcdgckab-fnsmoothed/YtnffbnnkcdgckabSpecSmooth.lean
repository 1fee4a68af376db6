/- What spec.Smooth answers: a definite word, or one that is no number. -/
import Derived.Test.YtnffbnnkcdgckabOrd
namespace Go.Proofs.Ytnffbnnkcdgckab
open Go.ChangeShapes Go.WideShapes Go.ChangeAt Go.RowKit
open Ieee (Datum Format double)
set_option linter.unusedVariables false

/-- Smoothed, where the answer is a definite word. -/
def partOk (p : Nat) : Bool := !isNan p && decide (0 ≤ key p) && decide (key p ≤ 4607182418800017408)
def smoothO (o x p : Nat) : Option Nat :=
  if isNan o = true then some x else if isNan x = true ∨ partOk p = false then some o
  else (double.sub x o).bind fun d => (double.mul p d).bind fun q => double.add o q
theorem mul_nanr (p d : Nat) (h : isNan d = true) : double.mul p d = none := by
  obtain ⟨f, e⟩ := read_nan (a := d) (by simpa [isNan] using h)
  unfold Format.mul; rw [e]; cases double.read p <;> rfl
theorem add_nanr (p d : Nat) (h : isNan d = true) : double.add p d = none := by
  obtain ⟨f, e⟩ := read_nan (a := d) (by simpa [isNan] using h)
  unfold Format.add; rw [e]; cases double.read p <;> rfl
theorem one_key : key 4607182418800017408 = 4607182418800017408 := by decide

set_option maxHeartbeats 400000 in
theorem specSmooth_in (o x p : Nat) (w : World) (ho : isNan o = false) (hx : isNan x = false) (hp : partOk p = true) :
    Calls Try.prog 9 #[.float .f64 o, .float .f64 x, .float .f64 p] w fun e w' => ∃ r, e = .returned (.float .f64 r) ∧ (smoothO o x p = some r ∨ smoothO o x p = none ∧ isNan r = true) ∧ Below w.heap.size w w' := by
  have hs : smoothO o x p = (double.sub x o).bind fun d => (double.mul p d).bind fun q => double.add o q := by
    unfold smoothO; rw [if_neg (by rw [ho]; simp), if_neg (by rw [hx, hp]; simp)]
  have HS : Hid (smoothO o x p = (double.sub x o).bind fun d => (double.mul p d).bind fun q => double.add o q) := hs
  clear hs
  have hp' := hp
  simp only [partOk, Bool.and_eq_true, decide_eq_true_eq, Bool.not_eq_true'] at hp'
  obtain ⟨⟨np, p0⟩, p1⟩ := hp'
  have o1 := order_self ho
  have o2 := order_self hx
  have o3 : FloatKind.f64.format.order p 0 = some .gt ∨ FloatKind.f64.format.order p 0 = some .eq := by
    rcases Int.lt_trichotomy (key p) 0 with h | h | h
    · omega
    · exact .inr (order_eq np nan_zero (by rw [key_zero]; exact h))
    · exact .inl (order_gt np nan_zero (by rw [key_zero]; exact h))
  have o4 : FloatKind.f64.format.order p 4607182418800017408 = some .lt ∨ FloatKind.f64.format.order p 4607182418800017408 = some .eq := by
    rcases Int.lt_trichotomy (key p) 4607182418800017408 with h | h | h
    · exact .inl (order_lt np (by decide) (by rw [one_key]; exact h))
    · exact .inr (order_eq np (by decide) (by rw [one_key]; exact h))
    · omega
  have cv := run_same_float
  clear p0 p1
  cases h1 : double.sub x o with
  | none =>
    have q1 := fun w => run_float_nan (P := Try.prog) w .sub 24 x o (.inr (.inl rfl)) h1
    have q2 := fun w v : World => run_float_nan (P := Try.prog) w .mul 24 p (nanAt v x o) (.inr (.inr (.inl rfl))) (mul_nanr _ _ (nanAt_nan v x o))
    have q3 := fun w v u : World => run_float_nan (P := Try.prog) w .add 24 o (nanAt v p (nanAt u x o)) (.inl rfl) (add_nanr _ _ (nanAt_nan _ _ _))
    have HN : Hid (smoothO o x p = none) := by have := HS.out; rw [h1] at this; exact this
    clear h1 HS hp
    rcases o3 with o3 | o3 <;> rcases o4 with o4 | o4
    all_goals
      go_enter Try.func9, Try.ntmps9
      go_wp2
      go_ret
      exact ⟨_, rfl, .inr ⟨HN.out, nanAt_nan _ _ _⟩, by go_grown⟩
  | some d =>
    have q1 := fun w => run_float_arith (P := Try.prog) w .sub 24 .f64 x o d h1
    cases h2 : double.mul p d with
    | none =>
      have q2 := fun w : World => run_float_nan (P := Try.prog) w .mul 24 p d (.inr (.inr (.inl rfl))) h2
      have q3 := fun w v : World => run_float_nan (P := Try.prog) w .add 24 o (nanAt v p d) (.inl rfl) (add_nanr _ _ (nanAt_nan _ _ _))
      have HN : Hid (smoothO o x p = none) := by have := HS.out; rw [h1, Option.bind_some, h2] at this; exact this
      clear h1 h2 HS hp
      rcases o3 with o3 | o3 <;> rcases o4 with o4 | o4
      all_goals
        go_enter Try.func9, Try.ntmps9
        go_wp2
        go_ret
        exact ⟨_, rfl, .inr ⟨HN.out, nanAt_nan _ _ _⟩, by go_grown⟩
    | some q =>
      have q2 := fun w => run_float_arith (P := Try.prog) w .mul 24 .f64 p d q h2
      cases h3 : double.add o q with
      | none =>
        have q3 := fun w : World => run_float_nan (P := Try.prog) w .add 24 o q (.inl rfl) h3
        have HN : Hid (smoothO o x p = none) := by have := HS.out; rw [h1, Option.bind_some, h2, Option.bind_some, h3] at this; exact this
        clear h1 h2 h3 HS hp
        rcases o3 with o3 | o3 <;> rcases o4 with o4 | o4
        all_goals
          go_enter Try.func9, Try.ntmps9
          go_wp2
          go_ret
          exact ⟨_, rfl, .inr ⟨HN.out, nanAt_nan _ _ _⟩, by go_grown⟩
      | some r =>
        have q3 := fun w => run_float_arith (P := Try.prog) w .add 24 .f64 o q r h3
        have HN : Hid (smoothO o x p = some r) := by have := HS.out; rw [h1, Option.bind_some, h2, Option.bind_some, h3] at this; exact this
        clear h1 h2 h3 HS hp
        rcases o3 with o3 | o3 <;> rcases o4 with o4 | o4
        all_goals
          go_enter Try.func9, Try.ntmps9
          go_wp2
          go_ret
          exact ⟨_, rfl, .inl HN.out, Below.refl _ _⟩

theorem smoothO_nan {o x p : Nat} (h : isNan o = true) : smoothO o x p = some x := by unfold smoothO; rw [if_pos h]
theorem smoothO_out {o x p : Nat} (ho : isNan o = false) (h : isNan x = true ∨ partOk p = false) : smoothO o x p = some o := by
  unfold smoothO; rw [if_neg (by rw [ho]; simp), if_pos h]
theorem part_cases {p : Nat} (h : partOk p = false) : isNan p = true ∨ (isNan p = false ∧ key p < 0) ∨ (isNan p = false ∧ 4607182418800017408 < key p) := by
  cases hn : isNan p
  · simp only [partOk, hn, Bool.not_false, Bool.true_and, Bool.and_eq_false_iff, decide_eq_false_iff_not] at h
    rcases h with h | h
    · exact .inr (.inl ⟨rfl, by omega⟩)
    · exact .inr (.inr ⟨rfl, by omega⟩)
  · exact .inl rfl
theorem specSmooth_any (o x p : Nat) (w : World) :
    Calls Try.prog 9 #[.float .f64 o, .float .f64 x, .float .f64 p] w fun e w' => ∃ r, e = .returned (.float .f64 r) ∧ (smoothO o x p = some r ∨ smoothO o x p = none ∧ isNan r = true) ∧ Below w.heap.size w w' := by
  cases ho : isNan o
  · cases hx : isNan x
    · cases hp : partOk p
      · have HN : Hid (smoothO o x p = some o) := smoothO_out ho (.inr hp)
        have o1 := order_self ho
        have o2 := order_self hx
        rcases part_cases hp with h | ⟨np, h⟩ | ⟨np, h⟩
        · have o3 := order_none (a := p) (b := 0) (.inl h)
          clear h hp
          go_enter Try.func9, Try.ntmps9
          go_wp2
          go_ret
          exact ⟨_, rfl, .inl HN.out, Below.refl _ _⟩
        · have o3 := order_lt np nan_zero (by rw [key_zero]; exact h)
          clear h hp
          go_enter Try.func9, Try.ntmps9
          go_wp2
          go_ret
          exact ⟨_, rfl, .inl HN.out, Below.refl _ _⟩
        · have o3 := order_gt np nan_zero (by rw [key_zero]; omega)
          have o4 := order_gt (b := 4607182418800017408) np (by decide) (by rw [one_key]; exact h)
          clear h hp
          go_enter Try.func9, Try.ntmps9
          go_wp2
          go_ret
          exact ⟨_, rfl, .inl HN.out, Below.refl _ _⟩
      · exact specSmooth_in o x p w ho hx hp
    · have HN : Hid (smoothO o x p = some o) := smoothO_out ho (.inl hx)
      have o1 := order_self ho
      have o2 := order_none (a := x) (b := x) (.inl hx)
      go_enter Try.func9, Try.ntmps9
      go_wp2
      go_ret
      exact ⟨_, rfl, .inl HN.out, Below.refl _ _⟩
  · have HN : Hid (smoothO o x p = some x) := smoothO_nan ho
    have o1 := order_none (a := o) (b := o) (.inl ho)
    go_enter Try.func9, Try.ntmps9
    go_wp2
    go_ret
    exact ⟨_, rfl, .inl HN.out, Below.refl _ _⟩
end Go.Proofs.Ytnffbnnkcdgckab

/- What impl.among answers, and impl's readings ToRate and Smooth. -/
import Derived.Test.YtnffbnnkcdgckabSpecSmooth
import Derived.Test.YtnffbnnkcdgckabSpecToRate
import Derived.Test.YtnffbnnkcdgckabSign
namespace Go.Proofs.Ytnffbnnkcdgckab
open Go.ChangeShapes Go.WideShapes Go.ChangeAt Go.RowKit
open Ieee (Datum Format double)
set_option linter.unusedVariables false

/-- From the one bound to the other. -/
def amongB (x lo hi : Nat) : Bool := !isNan x && decide (key lo ≤ key x) && decide (key x ≤ key hi)
theorem among_any (x lo hi : Nat) (w : World) (hl : isNan lo = false) (hh : isNan hi = false) :
    Calls Try.prog 20 #[.float .f64 x, .agg #[.float .f64 lo, .float .f64 hi]] w fun e w' => e = .returned (.bool (amongB x lo hi)) ∧ Below w.heap.size w w' := by
  cases hx : isNan x
  · rcases Int.lt_trichotomy (key lo) (key x) with h | h | h
    · have o1 := order_lt hl hx h
      have e1 : amongB x lo hi = decide (key x ≤ key hi) := by unfold amongB; rw [hx, decide_eq_true (by omega : key lo ≤ key x)]; simp
      rw [e1]
      clear e1 h
      rcases Int.lt_trichotomy (key x) (key hi) with h | h | h
      · have o2 := order_lt hx hh h
        rw [decide_eq_true (by omega : key x ≤ key hi)]
        clear h
        go_enter Try.func20, Try.ntmps20
        go_wp2
        go_ret
        exact ⟨rfl, by go_grown⟩
      · have o2 := order_eq hx hh h
        rw [decide_eq_true (by omega : key x ≤ key hi)]
        clear h
        go_enter Try.func20, Try.ntmps20
        go_wp2
        go_ret
        exact ⟨rfl, by go_grown⟩
      · have o2 := order_gt hx hh h
        rw [decide_eq_false (by omega : ¬ key x ≤ key hi)]
        clear h
        go_enter Try.func20, Try.ntmps20
        go_wp2
        go_ret
        exact ⟨rfl, by go_grown⟩
    · have o1 := order_eq hl hx h
      have e1 : amongB x lo hi = decide (key x ≤ key hi) := by unfold amongB; rw [hx, decide_eq_true (by omega : key lo ≤ key x)]; simp
      rw [e1]
      clear e1 h
      rcases Int.lt_trichotomy (key x) (key hi) with h | h | h
      · have o2 := order_lt hx hh h
        rw [decide_eq_true (by omega : key x ≤ key hi)]
        clear h
        go_enter Try.func20, Try.ntmps20
        go_wp2
        go_ret
        exact ⟨rfl, by go_grown⟩
      · have o2 := order_eq hx hh h
        rw [decide_eq_true (by omega : key x ≤ key hi)]
        clear h
        go_enter Try.func20, Try.ntmps20
        go_wp2
        go_ret
        exact ⟨rfl, by go_grown⟩
      · have o2 := order_gt hx hh h
        rw [decide_eq_false (by omega : ¬ key x ≤ key hi)]
        clear h
        go_enter Try.func20, Try.ntmps20
        go_wp2
        go_ret
        exact ⟨rfl, by go_grown⟩
    · have o1 := order_gt hl hx h
      have e1 : amongB x lo hi = false := by unfold amongB; rw [hx, decide_eq_false (by omega : ¬ key lo ≤ key x)]; simp
      rw [e1]
      clear e1 h
      go_enter Try.func20, Try.ntmps20
      go_wp2
      go_ret
      exact ⟨rfl, by go_grown⟩
  · have o := order_none (a := lo) (b := x) (.inr hx)
    have e : amongB x lo hi = false := by unfold amongB; rw [hx]; rfl
    rw [e]
    clear hx e
    go_enter Try.func20, Try.ntmps20
    go_wp2
    go_ret
    exact ⟨rfl, by go_grown⟩
theorem below_last {w w2 : World} {o : Obj} (h : Below (w.alloc o).heap.size (w.alloc o) w2) : Below w.heap.size w w2 := ((Below.refl _ _).alloc (Nat.le_refl _) o).trans (h.mono (by simp))
theorem among_rate (x : Nat) : amongB x 0 4786511204640096256 = rateOk x := by unfold amongB rateOk; rw [key_zero, max_key]
theorem among_part (x : Nat) : amongB x 0 4607182418800017408 = partOk x := by unfold amongB partOk; rw [key_zero, one_key]

theorem implToRate_any (x : Nat) (w : World) :
    Calls Try.prog 11 #[.float .f64 x] w fun e w' => e = .returned (.tuple #[.int .i64 (rateN x), .bool (rateOk x)]) ∧ Below w.heap.size w w' := by
  have am := among_rate x
  cases h : rateOk x
  · obtain ⟨h1, _⟩ := rate_out h
    rw [h1]
    rw [h] at am
    clear h h1
    go_enter Try.func11, Try.ntmps11
    go_wp2_with (first
      | (go_at_call 20; refine (among_any _ _ _ _ (by decide) (by decide)).mono ?_; rintro e w2 ⟨rfl, hb2⟩)
      | go_in)
    go_ret2
    exact ⟨rfl, below_last hb2⟩
  · obtain ⟨nx, x0, x1, _, n, hn, hle, hv, _, _⟩ := rate_in h
    rw [hn]
    rw [h] at am
    have q := run_cut hv
    clear hn hv x0 x1 h
    go_enter Try.func11, Try.ntmps11
    go_wp2_with (first
      | (go_at_call 20; refine (among_any _ _ _ _ (by decide) (by decide)).mono ?_; rintro e w2 ⟨rfl, hb2⟩)
      | go_in)
    go_ret2
    exact ⟨rfl, below_last hb2⟩
set_option maxHeartbeats 400000 in
theorem implSmooth_in (o x p : Nat) (w : World) (ho : isNan o = false) (hx : isNan x = false) (hp : partOk p = true) :
    Calls Try.prog 7 #[.float .f64 o, .float .f64 x, .float .f64 p] w fun e w' => ∃ r, e = .returned (.float .f64 r) ∧ (smoothO o x p = some r ∨ smoothO o x p = none ∧ isNan r = true) ∧ Below w.heap.size w w' := by
  have hs : smoothO o x p = (double.sub x o).bind fun d => (double.mul p d).bind fun q => double.add o q := by
    unfold smoothO; rw [if_neg (by rw [ho]; simp), if_neg (by rw [hx, hp]; simp)]
  have HS : Hid (smoothO o x p = (double.sub x o).bind fun d => (double.mul p d).bind fun q => double.add o q) := hs
  clear hs
  have o1 := order_self ho
  have o2 := order_self hx
  have am := among_part p
  rw [hp] at am
  have cv := run_same_float
  clear hp
  cases h1 : double.sub x o with
  | none =>
    have q1 := fun w => run_float_nan (P := Try.prog) w .sub 24 x o (.inr (.inl rfl)) h1
    have q2 := fun w v : World => run_float_nan (P := Try.prog) w .mul 24 p (nanAt v x o) (.inr (.inr (.inl rfl))) (mul_nanr _ _ (nanAt_nan v x o))
    have q3 := fun w v u : World => run_float_nan (P := Try.prog) w .add 24 o (nanAt v p (nanAt u x o)) (.inl rfl) (add_nanr _ _ (nanAt_nan _ _ _))
    have HN : Hid (smoothO o x p = none) := by have := HS.out; rw [h1] at this; exact this
    clear h1 HS
    go_enter Try.func7, Try.ntmps7
    go_wp2_with (first
      | (go_at_call 20; refine (among_any _ _ _ _ (by decide) (by decide)).mono ?_; rintro e w2 ⟨rfl, hb2⟩; have hb := below_last hb2)
      | go_in)
    go_ret
    exact ⟨_, rfl, .inr ⟨HN.out, nanAt_nan _ _ _⟩, by first | exact hb | exact hb.drew | exact hb.drew.drew | exact hb.drew.drew.drew⟩
  | some d =>
    have q1 := fun w => run_float_arith (P := Try.prog) w .sub 24 .f64 x o d h1
    cases h2 : double.mul p d with
    | none =>
      have q2 := fun w : World => run_float_nan (P := Try.prog) w .mul 24 p d (.inr (.inr (.inl rfl))) h2
      have q3 := fun w v : World => run_float_nan (P := Try.prog) w .add 24 o (nanAt v p d) (.inl rfl) (add_nanr _ _ (nanAt_nan _ _ _))
      have HN : Hid (smoothO o x p = none) := by have := HS.out; rw [h1, Option.bind_some, h2] at this; exact this
      clear h1 h2 HS
      go_enter Try.func7, Try.ntmps7
      go_wp2_with (first
        | (go_at_call 20; refine (among_any _ _ _ _ (by decide) (by decide)).mono ?_; rintro e w2 ⟨rfl, hb2⟩; have hb := below_last hb2)
        | go_in)
      go_ret
      exact ⟨_, rfl, .inr ⟨HN.out, nanAt_nan _ _ _⟩, by first | exact hb | exact hb.drew | exact hb.drew.drew | exact hb.drew.drew.drew⟩
    | some q =>
      have q2 := fun w => run_float_arith (P := Try.prog) w .mul 24 .f64 p d q h2
      cases h3 : double.add o q with
      | none =>
        have q3 := fun w : World => run_float_nan (P := Try.prog) w .add 24 o q (.inl rfl) h3
        have HN : Hid (smoothO o x p = none) := by have := HS.out; rw [h1, Option.bind_some, h2, Option.bind_some, h3] at this; exact this
        clear h1 h2 h3 HS
        go_enter Try.func7, Try.ntmps7
        go_wp2_with (first
          | (go_at_call 20; refine (among_any _ _ _ _ (by decide) (by decide)).mono ?_; rintro e w2 ⟨rfl, hb2⟩; have hb := below_last hb2)
          | go_in)
        go_ret
        exact ⟨_, rfl, .inr ⟨HN.out, nanAt_nan _ _ _⟩, by first | exact hb | exact hb.drew | exact hb.drew.drew | exact hb.drew.drew.drew⟩
      | some r =>
        have q3 := fun w => run_float_arith (P := Try.prog) w .add 24 .f64 o q r h3
        have HN : Hid (smoothO o x p = some r) := by have := HS.out; rw [h1, Option.bind_some, h2, Option.bind_some, h3] at this; exact this
        clear h1 h2 h3 HS
        go_enter Try.func7, Try.ntmps7
        go_wp2_with (first
          | (go_at_call 20; refine (among_any _ _ _ _ (by decide) (by decide)).mono ?_; rintro e w2 ⟨rfl, hb2⟩; have hb := below_last hb2)
          | go_in)
        go_ret
        exact ⟨_, rfl, .inl HN.out, by first | exact hb | exact hb.drew | exact hb.drew.drew | exact hb.drew.drew.drew⟩

theorem implSmooth_any (o x p : Nat) (w : World) :
    Calls Try.prog 7 #[.float .f64 o, .float .f64 x, .float .f64 p] w fun e w' => ∃ r, e = .returned (.float .f64 r) ∧ (smoothO o x p = some r ∨ smoothO o x p = none ∧ isNan r = true) ∧ Below w.heap.size w w' := by
  cases ho : isNan o
  · cases hx : isNan x
    · cases hp : partOk p
      · have HN : Hid (smoothO o x p = some o) := smoothO_out ho (.inr hp)
        have o1 := order_self ho
        have o2 := order_self hx
        have am := among_part p
        rw [hp] at am
        clear hp
        go_enter Try.func7, Try.ntmps7
        go_wp2_with (first
          | (go_at_call 20; refine (among_any _ _ _ _ (by decide) (by decide)).mono ?_; rintro e w2 ⟨rfl, hb2⟩; have hb := below_last hb2)
          | go_in)
        go_ret
        exact ⟨_, rfl, .inl HN.out, hb⟩
      · exact implSmooth_in o x p w ho hx hp
    · have HN : Hid (smoothO o x p = some o) := smoothO_out ho (.inl hx)
      have o1 := order_self ho
      have o2 := order_none (a := x) (b := x) (.inl hx)
      go_enter Try.func7, Try.ntmps7
      go_wp2
      go_ret
      exact ⟨_, rfl, .inl HN.out, by go_grown⟩
  · have HN : Hid (smoothO o x p = some x) := smoothO_nan ho
    have o1 := order_none (a := o) (b := o) (.inl ho)
    go_enter Try.func7, Try.ntmps7
    go_wp2
    go_ret
    exact ⟨_, rfl, .inl HN.out, by go_grown⟩
end Go.Proofs.Ytnffbnnkcdgckab

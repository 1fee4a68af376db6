/- The draws of floats: whatever the bytes, words of 64 bits; they turn the cursor's own block alone. -/
import Derived.Test.YtnffbnnkcdgckabOrd
import Derived.Test.YtnffbnnkcdgckabNew
namespace Go.Proofs.Ytnffbnnkcdgckab
open Go.ChangeShapes Go.WideShapes Go.ChangeAt Go.RowKit
open Ieee (Datum Format double)
set_option linter.unusedVariables false

theorem div_some {x c : Nat} (hx : isNan x = false) (hc : ∃ s n j, double.read c = .number s n j ∧ n ≠ 0) : ∃ r, double.div x c = some r ∧ isNan r = false ∧ r < 18446744073709551616 := by
  obtain ⟨s, n, j, e', hn⟩ := hc
  have ha' : rung x ≤ 9218868437227405312 := by simpa [isNan] using hx
  have h : ∃ r, double.div x c = some r := by
    unfold Format.div
    by_cases h1 : rung x = 9218868437227405312
    · rw [read_inf h1, e']; exact ⟨_, rfl⟩
    · obtain ⟨m, i, e, _, _⟩ := read_fin (show rung x < 9218868437227405312 by omega)
      rw [e, e']
      simp only [Datum.quotient, if_neg hn]; exact ⟨_, rfl⟩
  obtain ⟨r, hr⟩ := h
  exact ⟨r, hr, arith_ok (op := .quo) hr, double.div_lt hr⟩
theorem mul_some {x y : Nat} (hx : rung x < 9218868437227405312) (hy : rung y < 9218868437227405312) : ∃ r, double.mul x y = some r ∧ isNan r = false ∧ r < 18446744073709551616 := by
  have h : ∃ r, double.mul x y = some r := by
    obtain ⟨m, i, e, _, _⟩ := read_fin hx
    obtain ⟨n, j, e', _, _⟩ := read_fin hy
    unfold Format.mul
    rw [e, e']; exact ⟨_, rfl⟩
  obtain ⟨r, hr⟩ := h
  exact ⟨r, hr, arith_ok (op := .mul) hr, double.mul_lt hr⟩
theorem add_some {x y : Nat} (hx : isNan x = false) (hy : rung y < 9218868437227405312) : ∃ r, double.add x y = some r ∧ isNan r = false ∧ r < 18446744073709551616 := by
  have ha' : rung x ≤ 9218868437227405312 := by simpa [isNan] using hx
  have h : ∃ r, double.add x y = some r := by
    obtain ⟨n, j, e', _, _⟩ := read_fin hy
    unfold Format.add
    by_cases h1 : rung x = 9218868437227405312
    · rw [read_inf h1, e']; exact ⟨_, rfl⟩
    · obtain ⟨m, i, e, _, _⟩ := read_fin (show rung x < 9218868437227405312 by omega)
      rw [e, e']; exact ⟨_, rfl⟩
  obtain ⟨r, hr⟩ := h
  exact ⟨r, hr, arith_ok (op := .add) hr, double.add_lt hr⟩
theorem Cur.drew {B : Nat} {a0 : Option Addr} {len cap b : Nat} {w : World} (c : Cur B a0 len cap b w) : Cur B a0 len cap b w.drew := c.mono (Below.refl _ _).drew
theorem Only.drew {b : Nat} {w0 w : World} (h : Only b w0 w) : Only b w0 w.drew := ⟨h.os, h.tape, h.output, h.size, h.block⟩
theorem neg_zero : Op.negFloat .f64 0 = 9223372036854775808 := by decide

theorem floatTab_in (X N : Nat) (hN : N < 18446744073709551616) (h : X < 9) : ∃ y : Nat, (#[Value.float .f64 0, Value.float .f64 9223372036854775808, Value.float .f64 9218868437227405312, Value.float .f64 18442240474082181120, Value.float .f64 N, Value.float .f64 1, Value.float .f64 9218868437227405311, Value.float .f64 7598952565167317594, Value.float .f64 1614679632300144556] : Array Value)[X]? = some (.float .f64 y) ∧ y < 18446744073709551616 := by
  match X, h with
  | 0, _ => exact ⟨_, rfl, by decide⟩
  | 1, _ => exact ⟨_, rfl, by decide⟩
  | 2, _ => exact ⟨_, rfl, by decide⟩
  | 3, _ => exact ⟨_, rfl, by decide⟩
  | 4, _ => exact ⟨_, rfl, hN⟩
  | 5, _ => exact ⟨_, rfl, by decide⟩
  | 6, _ => exact ⟨_, rfl, by decide⟩
  | 7, _ => exact ⟨_, rfl, by decide⟩
  | 8, _ => exact ⟨_, rfl, by decide⟩

theorem run_neg (a : Nat) : Op.unary .neg (.float .f64 a) = pure (.float .f64 (Op.negFloat .f64 a)) := rfl
theorem neg_lt {a : Nat} (h : a < 18446744073709551616) : Op.negFloat .f64 a < 18446744073709551616 := by
  show a ^^^ 2 ^ 63 < 2 ^ 64
  exact Nat.xor_lt_two_pow h (by decide)

set_option maxHeartbeats 1000000 in
theorem drawFloat_acc {B : Nat} {a0 : Option Addr} {len cap b : Nat} {w0 w : World} (c : Cur B a0 len cap b w) (o : Only b w0 w) :
    Calls Try.prog 18 #[.pointer (some ⟨b, 0, none⟩)] w fun e w' => ∃ x : Nat, e = .returned (.float .f64 x) ∧ x < 18446744073709551616 ∧ Cur B a0 len cap b w' ∧ Only b w0 w' := by
  have z1 := run_quo_one (a := 0) (r := 9218868437227405312) (by decide)
  have z2 := fun w => run_float_arith (P := Try.prog) w .quo 24 .f64 13830554455654793216 0 18442240474082181120 (by decide)
  have z3 := fun w => run_float_nan (P := Try.prog) w .quo 24 0 0 (.inr (.inr (.inr rfl))) (by decide)
  have z4 := neg_zero
  go_enter Try.func18, Try.ntmps18
  go_wp2_with (first
    | (go_at_call 22; refine (from_acc _ _ (by assumption) (by assumption) (by omega) (by omega) (by omega)).mono ?_; rintro e w2 ⟨n, rfl, hn, c, o⟩; have hI := int_is n (by omega); obtain ⟨r4, h4, n4, l4⟩ := div_some (c := 4616189618054758400) (is_num hI) ⟨_, _, _, rfl, by decide⟩; obtain ⟨r3, h3, n3, l3⟩ := div_some (c := 4613937818241073152) (is_num hI) ⟨_, _, _, rfl, by decide⟩; obtain ⟨rm, hm, nm, lm⟩ := mul_some (y := 4697254413494910976) hI.2.1 (by decide); have q4 := fun w => run_float_arith (P := Try.prog) w .quo 24 .f64 _ _ _ h4; have q3 := fun w => run_float_arith (P := Try.prog) w .quo 24 .f64 _ _ _ h3; have qm := fun w => run_float_arith (P := Try.prog) w .mul 24 .f64 _ _ _ hm; have HL := hI.1; have HNN := is_num hI; clear h4 h3 hm hI)
    | (go_at_call 24; go_in))
  refine (below_acc 12 (by assumption) (by assumption) (by omega) (by omega)).mono ?_
  rintro e w3 ⟨k, rfl, hk, c, o⟩
  rcases (by omega : (k = 0 ∨ k = 1) ∨ k = 2 ∨ k = 3 ∨ k = 4 ∨ k = 5 ∨ k = 6 ∨ 7 ≤ k) with (rfl | rfl) | rfl | rfl | rfl | rfl | rfl | h7
  · go_wp2
    go_ret
    exact ⟨_, rfl, l4, c, o⟩
  · go_wp2
    go_ret
    exact ⟨_, rfl, l4, c, o⟩
  · go_wp2
    go_ret
    exact ⟨_, rfl, l3, c, o⟩
  · go_wp2
    go_ret
    exact ⟨_, rfl, lm, c, o⟩
  · have zn := run_neg 0
    rw [neg_zero] at zn
    go_wp2_with fail
    refine (below_acc 9 (c.alloc _).drew (Only.refl _ _) (by omega) (by omega)).mono ?_
    rintro e w4 ⟨x, rfl, hx, c4, o4⟩
    obtain ⟨X, rfl⟩ := Int.eq_ofNat_of_zero_le hx.1
    obtain ⟨y, hy, ly⟩ := floatTab_in X (nanAt w3 0 0) (nanAt_lt w3 0 0) (by omega)
    have o5 := (Only.refl b (w3.alloc (Obj.cells #[Value.float .f64 0, Value.float .f64 9223372036854775808, Value.float .f64 9218868437227405312, Value.float .f64 18442240474082181120, Value.float .f64 (nanAt w3 0 0), Value.float .f64 1, Value.float .f64 9218868437227405311, Value.float .f64 7598952565167317594, Value.float .f64 1614679632300144556] 24))).drew.trans o4
    have hcell := (table_cell c.hi o5 X).trans hy
    clear hy
    go_wp2
    go_ret
    exact ⟨_, rfl, ly, c4, (o.alloc _).trans o5⟩
  · go_wp2_with fail
    refine (below_acc 40 (by assumption) (by assumption) (by omega) (by omega)).mono ?_
    rintro e w4 ⟨i, rfl, hi, c, o⟩
    obtain ⟨I, rfl⟩ := Int.eq_ofNat_of_zero_le hi.1
    go_wp2
    go_loop [3, 5] (fun sx si => ∃ (v j : Nat), sx = .float .f64 v ∧ si = .int .i64 j ∧ j ≤ 40 ∧ isNan v = false ∧ v < 18446744073709551616) (fun _ i => (intOf i).toNat)
    case atStart => exact ⟨_, I, rfl, rfl, by omega, HNN, HL⟩
    case round =>
      obtain ⟨v, j, rfl, rfl, hj, nv, lv⟩ := hrel
      by_cases hlt : 0 < j
      · obtain ⟨r7, h7, n7, l7⟩ := div_some (c := 4619567317775286272) nv ⟨_, _, _, rfl, by decide⟩
        have q7 := fun w => run_float_arith (P := Try.prog) w .quo 24 .f64 _ _ _ h7
        clear h7
        have hlt' : (0 : Int) < (j : Int) := by omega
        go_wp2
        go_round
        case rel => exact ⟨r7, j - 1, rfl, by go_num, by omega, n7, l7⟩
        case measure => first | (simp [intOf]; done) | (simp [intOf]; omega)
      · obtain rfl : j = 0 := by omega
        go_wp2
        go_ret
        exact ⟨_, rfl, lv, c, o⟩
  · go_wp2_with fail
    refine (below_acc 1073741824 (by assumption) (by assumption) (by omega) (by omega)).mono ?_
    rintro e w4 ⟨n1, rfl, h1, c, o⟩
    have hJ := int_is n1 (by omega)
    obtain ⟨ra, ha, na, la⟩ := mul_some (y := 4742290407621132288) hJ.2.1 (by decide)
    have qa := fun w => run_float_arith (P := Try.prog) w .mul 24 .f64 _ _ _ ha
    clear ha hJ
    go_wp2_with fail
    refine (below_acc 1073741824 (by assumption) (by assumption) (by omega) (by omega)).mono ?_
    rintro e w5 ⟨n2, rfl, h2, c, o⟩
    have hJ := int_is n2 (by omega)
    obtain ⟨rb, hb, nb, lb⟩ := add_some na hJ.2.1
    have qb := fun w => run_float_arith (P := Try.prog) w .add 24 .f64 _ _ _ hb
    clear hb hJ
    go_wp2
    go_ret
    exact ⟨_, rfl, lb, c, o⟩
  · go_wp2
    go_ret
    exact ⟨_, rfl, HL, c, o⟩

theorem draw2_acc {B : Nat} {a0 : Option Addr} {len cap b : Nat} {w0 w : World} (c : Cur B a0 len cap b w) (o : Only b w0 w) :
    Calls Try.prog 15 #[.pointer (some ⟨b, 0, none⟩)] w fun e w' => ∃ x : Nat, e = .returned (.float .f64 x) ∧ x < 18446744073709551616 ∧ Cur B a0 len cap b w' ∧ Only b w0 w' := by
  go_enter Try.func15, Try.ntmps15
  go_wp2_with (first
    | (go_at_call 16; refine (once_acc _ (by assumption) (by assumption) (by omega) (by omega)).mono ?_; rintro e w2 ⟨f, rfl, c, o⟩; cases f)
    | (go_at_call 22; refine (from_acc _ _ (by assumption) (by assumption) (by omega) (by omega) (by omega)).mono ?_; rintro e w2 ⟨n, rfl, hn, c, o⟩; have hl := (int_is n (by omega)).1)
    | (go_at_call 18; refine (drawFloat_acc (by assumption) (by assumption)).mono ?_; rintro e w2 ⟨x, rfl, hl, c, o⟩))
  all_goals go_ret
  all_goals exact ⟨_, rfl, hl, c, o⟩

theorem drawSmooth_any {B : Nat} {a0 : Option Addr} {len : Nat} (cap : Nat) {w : World} (hs : len ≤ 4096) (row : Row B a0 len w) (hB : B ≤ w.heap.size) :
    Calls Try.prog 6 #[.slice a0 len cap] w fun e w' => ∃ x y z : Nat, e = .returned (.tuple #[.float .f64 x, .float .f64 y, .float .f64 z]) ∧ x < 18446744073709551616 ∧ y < 18446744073709551616 ∧ z < 18446744073709551616 ∧ Below w.heap.size w w' := by
  go_enter Try.func6, Try.ntmps6
  go_wp2_with (first
    | (go_at_call 14; refine (new_any cap hs row hB).mono ?_; rintro e w1 ⟨b, rfl, hb, c, hb1⟩; have o := Only.refl b w1)
    | (go_at_call 16; refine (once_acc _ (by assumption) (by assumption) (by omega) (by omega)).mono ?_; rintro e w2 ⟨f, rfl, c, o⟩; cases f)
    | (go_at_call 17; refine (below_acc _ (by assumption) (by assumption) (by omega) (by omega)).mono ?_; rintro e w2 ⟨n, rfl, hn, c, o⟩; obtain ⟨r, hr, nr, lr⟩ := div_some (c := 4620693217682128896) (is_num (int_is n (by omega))) ⟨_, _, _, rfl, by decide⟩; have q := fun w => run_float_arith (P := Try.prog) w .quo 24 .f64 _ _ _ hr; clear hr)
    | (go_at_call 18; refine (drawFloat_acc (by assumption) (by assumption)).mono ?_; rintro e w2 ⟨x, rfl, hl, c, o⟩)
    | (go_at_call 15; refine (draw2_acc (by assumption) (by assumption)).mono ?_; rintro e w2 ⟨x, rfl, hl, c, o⟩))
  all_goals go_ret3
  all_goals exact ⟨_, _, _, rfl, by assumption, by assumption, by assumption, hb1.trans (o.below hb hb1.size)⟩

theorem rateTabF_in (X : Nat) (h : X < 5) : ∃ y : Nat, (#[Value.float .f64 4786511204640096256, Value.float .f64 4786511204640104448, Value.float .f64 4786511204640092160, Value.float .f64 4602678819172646912, Value.float .f64 13826050856027422720] : Array Value)[X]? = some (.float .f64 y) ∧ y < 18446744073709551616 := by
  match X, h with
  | 0, _ => exact ⟨_, rfl, by decide⟩
  | 1, _ => exact ⟨_, rfl, by decide⟩
  | 2, _ => exact ⟨_, rfl, by decide⟩
  | 3, _ => exact ⟨_, rfl, by decide⟩
  | 4, _ => exact ⟨_, rfl, by decide⟩
theorem drawToRate_any {B : Nat} {a0 : Option Addr} {len : Nat} (cap : Nat) {w : World} (hs : len ≤ 4096) (row : Row B a0 len w) (hB : B ≤ w.heap.size) :
    Calls Try.prog 12 #[.slice a0 len cap] w fun e w' => ∃ x : Nat, e = .returned (.float .f64 x) ∧ x < 18446744073709551616 ∧ Below w.heap.size w w' := by
  go_enter Try.func12, Try.ntmps12
  go_wp2_with (first
    | (go_at_call 14; refine (new_any cap hs row hB).mono ?_; rintro e w1 ⟨b, rfl, hb, c, hb1⟩; have o := Only.refl b w1)
    | (go_at_call 16; refine (once_acc _ (by assumption) (by assumption) (by omega) (by omega)).mono ?_; rintro e w2 ⟨f, rfl, c, o⟩; cases f)
    | (go_at_call 17; refine (below_acc _ (by assumption) (by assumption) (by omega) (by omega)).mono ?_; rintro e w2 ⟨n, rfl, hn, c, o⟩; obtain ⟨r, hr, nr, lr⟩ := div_some (c := 4619567317775286272) (is_num (int_is n (by omega))) ⟨_, _, _, rfl, by decide⟩; have q := fun w => run_float_arith (P := Try.prog) w .quo 24 .f64 _ _ _ hr; clear hr)
    | (go_at_call 17; refine (below_acc 5 (Cur.alloc (by assumption) _) (Only.refl _ _) (by omega) (by omega)).mono ?_; rintro e w3 ⟨x, rfl, hx, c3, o3⟩; obtain ⟨X, rfl⟩ := Int.eq_ofNat_of_zero_le hx.1; obtain ⟨y, hy, lr⟩ := rateTabF_in X (by omega); have hcell := (table_cell (Cur.hi (by assumption)) o3 X).trans hy; clear hy)
    | (go_at_call 18; refine (drawFloat_acc (by assumption) (by assumption)).mono ?_; rintro e w2 ⟨x, rfl, lr, c, o⟩))
  all_goals go_ret
  all_goals first | exact ⟨_, rfl, lr, hb1.trans (((o.alloc _).trans o3).below hb hb1.size)⟩ | exact ⟨_, rfl, lr, hb1.trans (o.below hb hb1.size)⟩
end Go.Proofs.Ytnffbnnkcdgckab

/- Whole numbers from -500 to 500 as readings: smoothed by 0, by 1 and by a half, and as rates; what laws.pick answers. -/
import Derived.Test.YtnffbnnkcdgckabImplRate
import Derived.Test.YtnffbnnkcdgckabNew
namespace Go.Proofs.Ytnffbnnkcdgckab
open Go.ChangeShapes Go.WideShapes Go.ChangeAt Go.RowKit
open Ieee (Datum Format double)
set_option linter.unusedVariables false

theorem word_is (a : Nat) (k : Int) (n : Int) (h : n.natAbs < 4503599627370496) (e : floatOfInt .f64 n = a) (hk : 2 * n = k) : Is a k := by
  subst e; subst hk; exact int_is n h
theorem zero_is : Is 0 0 := word_is 0 0 0 (by decide) (by decide) rfl
theorem one_is : Is 4607182418800017408 2 := word_is _ _ 1 (by decide) (by decide) rfl
theorem two_is : Is 4611686018427387904 4 := word_is _ _ 2 (by decide) (by decide) rfl
theorem half_is : Is 4602678819172646912 1 := by
  refine ⟨by decide, by decide, ?_⟩
  unfold val
  rw [if_neg (by decide)]
  rw [show mag (rung 4602678819172646912) = 2 ^ halfUp by decide +kernel, Int.one_mul]
  exact Int.natCast_pow 2 halfUp
theorem eq_of_is {a b : Nat} {k : Int} (ha : Is a k) (hb : Is b k) : FloatKind.f64.format.order a b = some .eq := by
  show double.order a b = _
  rw [is_order ha hb, Int.compare_eq_eq.2 rfl]
/-- A whole number smoothed by a part of which the product is whole halves. -/
theorem smooth_is {X Y p : Nat} {x y k q : Int} (hX : Is X (2 * x)) (hY : Is Y (2 * y)) (hP : Is p k) (pk : partOk p = true) (bx : x.natAbs ≤ 500) (bY : y.natAbs ≤ 500)
    (hq : k * (2 * y - 2 * x) = 2 * q) (bq : q.natAbs ≤ 2000) : ∃ r, smoothO X Y p = some r ∧ Is r (2 * x + q) := by
  obtain ⟨d, hd, iD⟩ := sub_is hY hX (by omega)
  obtain ⟨m, hm, iM⟩ := mul_is hP iD hq (by omega)
  obtain ⟨r, hr, iR⟩ := add_is hX iM (by omega)
  refine ⟨r, ?_, iR⟩
  unfold smoothO
  rw [if_neg (by rw [is_num hX]; simp), if_neg (by rw [is_num hY, pk]; simp), hd, Option.bind_some, hm, Option.bind_some, hr]
theorem smooth_got {o x p r s : Nat} (h : smoothO o x p = some r ∨ smoothO o x p = none ∧ isNan r = true) (e : smoothO o x p = some s) : r = s := by
  rcases h with h | ⟨h, _⟩
  · rw [h] at e; exact Option.some.inj e
  · rw [h] at e; cases e
theorem smooth_zero {x y : Int} {X Y : Nat} (w : World) (bx : x.natAbs ≤ 500) (bY : y.natAbs ≤ 500) (hX : Hid (floatOfInt .f64 x = X)) (hY : Hid (floatOfInt .f64 y = Y)) :
    Calls Try.prog 7 #[.float .f64 X, .float .f64 Y, .float .f64 0] w fun e w' => ∃ r, e = .returned (.float .f64 r) ∧ FloatKind.f64.format.order r X = some .eq ∧ Below w.heap.size w w' := by
  obtain rfl := hX.out
  obtain rfl := hY.out
  refine (implSmooth_any _ _ _ w).mono ?_
  rintro e w' ⟨r, rfl, h, hb⟩
  obtain ⟨s, hs, iS⟩ := smooth_is (int_is x (by omega)) (int_is y (by omega)) zero_is (by decide) bx bY (q := 0) (by omega) (by omega)
  obtain rfl := smooth_got h hs
  exact ⟨r, rfl, eq_of_is (by simpa using iS) (int_is x (by omega)), hb⟩
theorem smooth_one {x y : Int} {X Y : Nat} (w : World) (bx : x.natAbs ≤ 500) (bY : y.natAbs ≤ 500) (hX : Hid (floatOfInt .f64 x = X)) (hY : Hid (floatOfInt .f64 y = Y)) :
    Calls Try.prog 7 #[.float .f64 X, .float .f64 Y, .float .f64 4607182418800017408] w fun e w' => ∃ r, e = .returned (.float .f64 r) ∧ FloatKind.f64.format.order r Y = some .eq ∧ Below w.heap.size w w' := by
  obtain rfl := hX.out
  obtain rfl := hY.out
  refine (implSmooth_any _ _ _ w).mono ?_
  rintro e w' ⟨r, rfl, h, hb⟩
  obtain ⟨s, hs, iS⟩ := smooth_is (int_is x (by omega)) (int_is y (by omega)) one_is (by decide) bx bY (q := 2 * y - 2 * x) (by omega) (by omega)
  obtain rfl := smooth_got h hs
  rw [show 2 * x + (2 * y - 2 * x) = 2 * y by omega] at iS
  exact ⟨r, rfl, eq_of_is iS (int_is y (by omega)), hb⟩
theorem smooth_half {x y : Int} {X Y : Nat} (w : World) (bx : x.natAbs ≤ 500) (bY : y.natAbs ≤ 500) (hX : Hid (floatOfInt .f64 x = X)) (hY : Hid (floatOfInt .f64 y = Y)) :
    Calls Try.prog 7 #[.float .f64 X, .float .f64 Y, .float .f64 4602678819172646912] w fun e w' => ∃ r m s, e = .returned (.float .f64 r) ∧
      double.mul r 4611686018427387904 = some m ∧ double.add X Y = some s ∧ FloatKind.f64.format.order m s = some .eq ∧ Below w.heap.size w w' := by
  obtain rfl := hX.out
  obtain rfl := hY.out
  refine (implSmooth_any _ _ _ w).mono ?_
  rintro e w' ⟨r, rfl, h, hb⟩
  obtain ⟨s, hs, iS⟩ := smooth_is (int_is x (by omega)) (int_is y (by omega)) half_is (by decide) bx bY (q := y - x) (by omega) (by omega)
  obtain rfl := smooth_got h hs
  rw [show 2 * x + (y - x) = x + y by omega] at iS
  obtain ⟨m, hm, iM⟩ := mul_is iS two_is (p := 2 * x + 2 * y) (by omega) (by omega)
  obtain ⟨t, ht, iT⟩ := add_is (int_is x (by omega)) (int_is y (by omega)) (by omega)
  exact ⟨r, m, t, rfl, hm, ht, eq_of_is iM iT, hb⟩

theorem rates_all : ∀ k : Nat, k < 1001 → rateN (floatOfInt .f64 ((k : Int) - 500)) = (if 500 ≤ k then (k : Int) - 500 else 0) ∧ rateOk (floatOfInt .f64 ((k : Int) - 500)) = decide (500 ≤ k) := by decide +kernel
theorem rate_whole {x : Int} {X : Nat} (bx : x.natAbs ≤ 500) (hX : Hid (floatOfInt .f64 x = X)) : (rateOk X = false ∧ rateN X = 0 ∧ FloatKind.f64.format.order X 0 = some .lt) ∨
    (rateOk X = true ∧ rateN X = x ∧ FloatKind.f64.format.order X X = some .eq ∧ (FloatKind.f64.format.order X 0 = some .eq ∨ FloatKind.f64.format.order X 0 = some .gt)) := by
  obtain rfl := hX.out
  obtain ⟨h1, h2⟩ := rates_all (x + 500).toNat (by omega)
  have e : (((x + 500).toNat : Nat) : Int) - 500 = x := by omega
  rw [e] at h1 h2
  have o : FloatKind.f64.format.order (floatOfInt .f64 x) 0 = some (compare (2 * x) 0) := is_order (int_is x (by omega)) zero_is
  by_cases h : 0 ≤ x
  · refine .inr ⟨by rw [h2]; exact decide_eq_true (by omega), by rw [h1, if_pos (by omega)], order_self (is_num (int_is x (by omega))), ?_⟩
    rcases Int.lt_or_eq_of_le h with h | h
    · exact .inr (by rw [o, Int.compare_eq_gt.2 (by omega)])
    · exact .inl (by rw [o, Int.compare_eq_eq.2 (by omega)])
  · exact .inl ⟨by rw [h2]; exact decide_eq_false (by omega), by rw [h1, if_neg (by omega)], by rw [o, Int.compare_eq_lt.2 (by omega)]⟩

set_option maxHeartbeats 400000 in
theorem pick_any {B : Nat} {a0 : Option Addr} {len : Nat} (cap : Nat) {w : World} (hs : len ≤ 5000) (row : Row B a0 len w) :
    Calls Try.prog 10 #[.slice a0 len cap, .int .i64 1001] w fun e w' => ∃ k : Int, e = .returned (.int .i64 k) ∧ 0 ≤ k ∧ k < 1001 ∧ w' = w := by
  go_enter Try.func10, Try.ntmps10
  go_wp2
  go_loop [5, 6] (fun sh si => ∃ (k : Nat) (v : Int), si = .int .i64 k ∧ k ≤ len ∧ sh = .int .i64 v ∧ 0 ≤ v ∧ v ≤ 1000003) (fun _ i => len - (intOf i).toNat)
  case atStart => exact ⟨0, _, rfl, by omega, rfl, by omega, by omega⟩
  case round =>
    obtain ⟨k, v, rfl, hk, rfl, v0, v1⟩ := hrel
    by_cases hlt : k < len
    · obtain ⟨xb, xo, z, rfl, hx, cz, z0, z1⟩ := row k hlt
      have hlt' : (k : Int) < (len : Int) := by omega
      go_wp2
      go_round
      case rel => exact ⟨k + 1, _, by go_num, by omega, rfl, by omega, by omega⟩
      case measure => first | (simp [intOf]; done) | (simp [intOf]; omega)
    · have e : k = len := by omega
      subst e
      go_wp2
      go_ret
      exact ⟨_, rfl, by omega, by omega, rfl⟩
end Go.Proofs.Ytnffbnnkcdgckab

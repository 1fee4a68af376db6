/- The draw of two times; the laws' pick. -/
import Derived.Test.YtiibafphgjlffaeDraws1
namespace Go.Proofs.Ytiibafphgjlffae
open Go.ChangeShapes Go.WideShapes Go.ChangeAt Go.RowKit
set_option maxRecDepth 100000
set_option linter.unusedVariables false

theorem levTab_in (X : Nat) (h : X < 5) : ∃ y : Int, (#[Value.int IntKind.i64 1, Value.int IntKind.i64 1000000, Value.int IntKind.i64 60000000, Value.int IntKind.i64 4000000000, Value.int IntKind.i64 300000000000] : Array Value)[X]? = some (.int .i64 y) := by
  match X, h with
  | 0, _ => exact ⟨_, rfl⟩
  | 1, _ => exact ⟨_, rfl⟩
  | 2, _ => exact ⟨_, rfl⟩
  | 3, _ => exact ⟨_, rfl⟩
  | 4, _ => exact ⟨_, rfl⟩
theorem pickN_any {B : Nat} {a0 : Option Addr} {len : Nat} (cap : Nat) {w : World} (n : Int) (n0 : 1 ≤ n) (n1 : n ≤ 4611686018427387904) (hs : len ≤ 5000) (row : Row B a0 len w) :
    Calls Try.prog 35 #[.slice a0 len cap, .int .i64 n] w fun e w' => ∃ k : Int, e = .returned (.int .i64 k) ∧ 0 ≤ k ∧ k < n ∧ k ≤ 1000003 ∧ w' = w := by
  go_enter Try.func35, Try.ntmps35
  go_wp2
  go_loop [5, 6] (fun sh si => ∃ (k : Nat) (v : Int), si = .int .i64 k ∧ k ≤ len ∧ sh = .int .i64 v ∧ 0 ≤ v ∧ v ≤ 1000003) (fun _ i => len - (intOf i).toNat)
  case atStart => exact ⟨0, _, rfl, by omega, rfl, by omega, by omega⟩
  case round =>
    obtain ⟨k, v, rfl, hk, rfl, v0, v1⟩ := hrel
    by_cases hlt : k < len
    · obtain ⟨xb, xo, z, rfl, hx, cz, z0, z1⟩ := row k hlt
      have hlt' : (k : Int) < (len : Int) := by omega
      go_wp2
      go_round
      case rel => exact ⟨k + 1, _, by go_num, by omega, rfl, by omega, by omega⟩
      case measure => first | (simp [intOf]; done) | (simp [intOf]; omega)
    · have e : k = len := by omega
      subst e
      have nz : (n == 0) = false := by simp; omega
      have nz' : ¬ n = 0 := by omega
      have em : v.tmod n = v % n := Int.tmod_eq_emod_of_nonneg v0
      have m0 := Int.emod_nonneg v nz'
      have m1 := Int.emod_lt_of_pos v (show 0 < n by omega)
      have m2 : v % n ≤ v := by
        have a1 := Int.mul_ediv_add_emod v n
        have a2 := Int.mul_nonneg (show 0 ≤ n by omega) (Int.ediv_nonneg v0 (show 0 ≤ n by omega))
        omega
      have ew : IntKind.i64.wrap (v % n) = v % n := by rw [IntKind.wrap_i64]; omega
      go_wp2
      go_ret
      exact ⟨v % n, by first | rfl | (simp [em, ew]), m0, m1, by omega, rfl⟩
end Go.Proofs.Ytiibafphgjlffae

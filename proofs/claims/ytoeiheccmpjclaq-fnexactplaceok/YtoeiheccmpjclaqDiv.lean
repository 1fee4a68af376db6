/- What impl.divide answers: the quotient where it is at most 2^63 - 1, and whether it is; only new memory is touched. -/
import Derived.Test.YtoeiheccmpjclaqMul
import Derived.Test.YtoeiheccmpjclaqBits
namespace Go.Proofs.Ytoeiheccmpjclaq
open Go.ChangeShapes Go.WideShapes Go.ChangeAt Go.RowKit
set_option maxRecDepth 100000
set_option linter.unusedVariables false

set_option maxHeartbeats 1000000 in
theorem divide_any (p0 p1 p2 p3 c N : Nat) (w : World) (h0 : p0 ≤ 4294967295) (h1 : p1 ≤ 4294967295) (h2 : p2 ≤ 4294967295) (h3 : p3 ≤ 4294967295) (hc : 1 ≤ c) (hc' : c ≤ 9223372036854775807)
    (HN : Hid (N = p0 + 4294967296 * p1 + 18446744073709551616 * p2 + 79228162514264337593543950336 * p3)) :
    Calls Try.prog 91 #[.agg #[.int .u32 p0, .int .u32 p1, .int .u32 p2, .int .u32 p3], .int .u64 c] w fun e w' => ∃ (q : Nat) (f : Bool), e = .returned (.tuple #[.int .u64 q, .bool f]) ∧
      (f = true → q = N / c ∧ N / c ≤ 9223372036854775807) ∧ (f = false → 9223372036854775807 < N / c) ∧ Below w.heap.size w w' := by
  obtain ⟨wd, hwd⟩ : ∃ wd : Nat → Nat, wd = fun k => if k = 0 then p0 else if k = 1 then p1 else if k = 2 then p2 else p3 := ⟨_, rfl⟩
  have HC : Hid (∀ k : Nat, k < 4 → (w.alloc (Obj.cells #[.int .u32 p0, .int .u32 p1, .int .u32 p2, .int .u32 p3] 96)).cell? ⟨w.heap.size, k, none⟩ = some (.int .u32 (wd k))) := by
    intro k hk
    match k, hk with
    | 0, _ => go_simp
    | 1, _ => go_simp
    | 2, _ => go_simp
    | 3, _ => go_simp
  have HW : Hid (∀ k, k < 4 → wd k ≤ 4294967295 ∧ wd k = N / 2 ^ (32 * k) % 4294967296) := by
    intro k hk
    have := HN.out
    match k, hk with
    | 0, _ => rw [hwd]; dsimp only; rw [if_pos rfl]; omega
    | 1, _ => rw [hwd]; dsimp only; rw [if_neg (by decide), if_pos rfl]; omega
    | 2, _ => rw [hwd]; dsimp only; rw [if_neg (by decide), if_neg (by decide), if_pos rfl]; omega
    | 3, _ => rw [hwd]; dsimp only; rw [if_neg (by decide), if_neg (by decide), if_neg (by decide)]; omega
  clear hwd
  go_enter Try.func91, Try.ntmps91
  go_wp2; go_step3
  go_wp2; go_step3
  go_wp2
  go_loop [6, 7, 8, 9] (fun sq sr sf si => ∃ q r m : Nat, sq = .int .u64 q ∧ sr = .int .u64 r ∧ sf = .bool true ∧ ((si = .int .i64 (-1) ∧ m = 0) ∨ (∃ k : Nat, m = k + 1 ∧ si = .int .i64 k)) ∧ m ≤ 4 ∧ DivSt N c (32 * m) q r) (fun _ _ _ i => (intOf i + 1).toNat)
  case atStart =>
    refine ⟨0, 0, 4, rfl, rfl, rfl, .inr ⟨3, rfl, rfl⟩, by omega, ?_, by omega, by omega⟩
    have := HN.out
    omega
  case round =>
    obtain ⟨q, r, m, rfl, rfl, rfl, ⟨rfl, rfl⟩ | ⟨k, rfl, rfl⟩, hm, hst⟩ := hrel
    · go_wp2
      go_ret2
      exact ⟨q, true, rfl, fun _ => divSt_end hst, (fun h => by cases h), by go_grown⟩
    · have hcell := HC.out k (by omega)
      have hwk := (HW.out k (by omega)).1
      have hk4 : (k : Int) < 4 := by omega
      go_wp2
      go_loop [6, 7, 8, 10] (fun sq sr sf sb => ∃ q r s : Nat, sq = .int .u64 q ∧ sr = .int .u64 r ∧ sf = .bool true ∧ ((sb = .int .i64 (-1) ∧ s = 0) ∨ (∃ j : Nat, s = j + 1 ∧ sb = .int .i64 j)) ∧ s ≤ 32 ∧ DivSt N c (32 * k + s) q r) (fun _ _ _ i => (intOf i + 1).toNat)
      case atStart => exact ⟨q, r, 32, rfl, rfl, rfl, .inr ⟨31, rfl, rfl⟩, by omega, hst⟩
      case round =>
        obtain ⟨q, r, s, rfl, rfl, rfl, ⟨rfl, rfl⟩ | ⟨j, rfl, rfl⟩, hs, hst⟩ := hrel
        · go_wp2
          go_round
          case rel =>
            refine ⟨q, r, k, rfl, rfl, rfl, ?_, by omega, hst⟩
            cases k with
            | zero => exact .inl ⟨by go_num, rfl⟩
            | succ k => exact .inr ⟨k, rfl, by go_num⟩
          case measure => first | (simp [intOf]; done) | (simp [intOf]; omega)
        · have hq := hst.2.2
          have hr := hst.2.1
          have HB := bit_of_word N k j (by omega)
          rw [← (HW.out k (by omega)).2] at HB
          obtain ⟨β, hβ⟩ : ∃ β : Nat, β = N / 2 ^ (32 * k + j) % 2 := ⟨_, rfl⟩
          have hb1 : β ≤ 1 := by omega
          have hle : wd k / 2 ^ j ≤ wd k := Nat.div_le_self _ _
          have hand : bits .and .u32 ((wd k : Int) / 2 ^ j) 1 = (β : Int) := by
            rw [show ((wd k : Int) / 2 ^ j) = ((wd k / 2 ^ j : Nat) : Int) by simp, hβ, ← HB]
            generalize wd k / 2 ^ j = Y at hle
            rw [and1_u32 _ (by omega) (by omega)]
            omega
          have hor : bits .or .u64 ((r : Int) * 2) (β : Int) = (r : Int) * 2 + β := or1_u64 _ _ (by omega) (by omega) (by omega) (by omega) (by omega)
          have Hyes : Hid (q ≤ 4611686018427387903 → c ≤ 2 * r + β → DivSt N c (32 * k + j) (2 * q + 1) (2 * r + β - c)) := by
            intro g1 g2; rw [hβ] at g2 ⊢; exact divSt_yes hst g1 g2
          have Hno : Hid (q ≤ 4611686018427387903 → 2 * r + β < c → DivSt N c (32 * k + j) (2 * q) (2 * r + β)) := by
            intro g1 g2; rw [hβ] at g2 ⊢; exact divSt_no hst g1 g2
          have Hov : Hid (4611686018427387903 < q → 9223372036854775807 < N / c) := fun g => divSt_over hst g
          clear HB hβ hle
          by_cases hover : 4611686018427387903 < q
          · go_wp2
            go_ret2
            exact ⟨q, false, rfl, (fun h => by cases h), fun _ => Hov.out hover, by go_grown⟩
          · have hor1 : bits .or .u64 ((q : Int) * 2) 1 = (q : Int) * 2 + 1 := or1_u64 _ _ (by omega) (by omega) (by omega) (by omega) (by omega)
            by_cases hge : c ≤ 2 * r + β
            · go_wp2
              go_round
              case rel =>
                refine ⟨2 * q + 1, 2 * r + β - c, j, by go_num, by go_num, rfl, ?_, by omega, Hyes.out (by omega) hge⟩
                cases j with
                | zero => exact .inl ⟨by go_num, rfl⟩
                | succ j => exact .inr ⟨j, rfl, by go_num⟩
              case measure => first | (simp [intOf]; done) | (simp [intOf]; omega)
            · go_wp2
              go_round
              case rel =>
                refine ⟨2 * q, 2 * r + β, j, by go_num, by go_num, rfl, ?_, by omega, Hno.out (by omega) (by omega)⟩
                cases j with
                | zero => exact .inl ⟨by go_num, rfl⟩
                | succ j => exact .inr ⟨j, rfl, by go_num⟩
              case measure => first | (simp [intOf]; done) | (simp [intOf]; omega)
end Go.Proofs.Ytoeiheccmpjclaq

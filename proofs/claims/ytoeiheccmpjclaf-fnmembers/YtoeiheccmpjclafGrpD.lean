/- Lemmas on the way, of several texts: Mul, Div, MulDiv, SpecMulDiv. -/
import Derived.Test.YtoeiheccmpjclafRows
import Derived.Test.YtoeiheccmpjclafGrpB
import Derived.Deep.QuietTactic
import Derived.BigQuiet
import Derived.Outline
import Derived.LoopN
import Derived.Handy
import Derived.WalkSmall
namespace Go.Proofs.Ytoeiheccmpjclaf
open Go.ChangeShapes Go.WideShapes Go.ChangeAt Go.RowKit
set_option maxRecDepth 100000
set_option linter.unusedVariables false

theorem mul_bd (x y : Int) (hx : 0 ≤ x ∧ x ≤ 4294967295) (hy : 0 ≤ y ∧ y ≤ 4294967295) : 0 ≤ x * y ∧ x * y ≤ 18446744065119617025 :=
  ⟨Int.mul_nonneg hx.1 hy.1, by have := Int.mul_le_mul hx.2 hy.2 hy.1 (by omega : (0 : Int) ≤ 4294967295); omega⟩
theorem mul_parts (x0 x1 y0 y1 : Int) :
    (x0 + 4294967296 * x1) * (y0 + 4294967296 * y1) = x0 * y0 + 4294967296 * (x0 * y1 + x1 * y0) + 18446744073709551616 * (x1 * y1) := by
  grind

/-- The product so far: behind k rounds of the outer loop. -/
def mulSt (x0 x1 y0 y1 : Int) (k : Int) (p0 p1 p2 p3 : Int) : Prop :=
  (k = 0 ∧ p0 = 0 ∧ p1 = 0 ∧ p2 = 0 ∧ p3 = 0) ∨
  (k = 1 ∧ p3 = 0 ∧ p0 + 4294967296 * p1 + 18446744073709551616 * p2 = x0 * y0 + 4294967296 * (x0 * y1)) ∨
  (k = 2 ∧ p0 + 4294967296 * p1 + 18446744073709551616 * p2 + 79228162514264337593543950336 * p3 = x0 * y0 + 4294967296 * (x0 * y1 + x1 * y0) + 18446744073709551616 * (x1 * y1))

set_option maxHeartbeats 1000000 in
theorem multiply_any (a b : Int) (w : World) (a0 : 0 ≤ a) (a1 : a ≤ 9223372036854775807) (b0 : 0 ≤ b) (b1 : b ≤ 9223372036854775807) :
    Calls Try.prog 84 #[.int .u64 a, .int .u64 b] w fun e w' => ∃ p0 p1 p2 p3 : Int, e = .returned (.agg #[.int .u32 p0, .int .u32 p1, .int .u32 p2, .int .u32 p3]) ∧
      (0 ≤ p0 ∧ p0 ≤ 4294967295) ∧ (0 ≤ p1 ∧ p1 ≤ 4294967295) ∧ (0 ≤ p2 ∧ p2 ≤ 4294967295) ∧ (0 ≤ p3 ∧ p3 ≤ 4294967295) ∧
      p0 + 4294967296 * p1 + 18446744073709551616 * p2 + 79228162514264337593543950336 * p3 = a * b ∧ Below w.heap.size w w' := by
  have hx0 : 0 ≤ a % 4294967296 ∧ a % 4294967296 ≤ 4294967295 := by omega
  have hx1 : 0 ≤ a / 4294967296 ∧ a / 4294967296 ≤ 4294967295 := by omega
  have hy0 : 0 ≤ b % 4294967296 ∧ b % 4294967296 ≤ 4294967295 := by omega
  have hy1 : 0 ≤ b / 4294967296 ∧ b / 4294967296 ≤ 4294967295 := by omega
  have HA : Hid (a = a % 4294967296 + 4294967296 * (a / 4294967296)) := by show _ = _; omega
  have HB : Hid (b = b % 4294967296 + 4294967296 * (b / 4294967296)) := by show _ = _; omega
  go_enter Try.func84, Try.ntmps84
  go_wp2
  generalize a % 4294967296 = x0 at *
  generalize a / 4294967296 = x1 at *
  generalize b % 4294967296 = y0 at *
  generalize b / 4294967296 = y1 at *
  have h00 := mul_bd x0 y0 hx0 hy0
  have h01 := mul_bd x0 y1 hx0 hy1
  have h10 := mul_bd x1 y0 hx1 hy0
  have h11 := mul_bd x1 y1 hx1 hy1
  go_loopw [24] (fun i wr => ∃ k p0 p1 p2 p3 : Int, i = .int .i64 k ∧ Hid (mulSt x0 x1 y0 y1 k p0 p1 p2 p3) ∧ (0 ≤ k ∧ k ≤ 2) ∧ (0 ≤ p0 ∧ p0 ≤ 4294967295) ∧ (0 ≤ p1 ∧ p1 ≤ 4294967295) ∧ (0 ≤ p2 ∧ p2 ≤ 4294967295) ∧ (0 ≤ p3 ∧ p3 ≤ 4294967295) ∧
      wr.cell? ⟨w.heap.size + 1, 0, none⟩ = some (.int .u32 x0) ∧ wr.cell? ⟨w.heap.size + 1, 1, none⟩ = some (.int .u32 x1) ∧
      wr.cell? ⟨w.heap.size + 1 + 1, 0, none⟩ = some (.int .u32 y0) ∧ wr.cell? ⟨w.heap.size + 1 + 1, 1, none⟩ = some (.int .u32 y1) ∧
      wr.cell? ⟨w.heap.size + 1 + 1 + 1, 0, none⟩ = some (.int .u32 p0) ∧ wr.cell? ⟨w.heap.size + 1 + 1 + 1, 1, none⟩ = some (.int .u32 p1) ∧
      wr.cell? ⟨w.heap.size + 1 + 1 + 1, 2, none⟩ = some (.int .u32 p2) ∧ wr.cell? ⟨w.heap.size + 1 + 1 + 1, 3, none⟩ = some (.int .u32 p3) ∧
      (∀ j, wr.frozen? ⟨w.heap.size + 1 + 1 + 1, j, none⟩ = false) ∧ (∀ j, wr.frozen? ⟨w.heap.size, j, none⟩ = false) ∧
      wr.cell? ⟨w.heap.size, 0, none⟩ = some (.int .u32 0) ∧ wr.cell? ⟨w.heap.size, 1, none⟩ = some (.int .u32 0) ∧
      wr.cell? ⟨w.heap.size, 2, none⟩ = some (.int .u32 0) ∧ wr.cell? ⟨w.heap.size, 3, none⟩ = some (.int .u32 0) ∧
      Below w.heap.size w wr) (fun i _ => 2 - (intOf i).toNat)
  case atStart =>
    refine ⟨0, 0, 0, 0, 0, rfl, .inl ⟨rfl, rfl, rfl, rfl, rfl⟩, by omega, by omega, by omega, by omega, by omega, ?_, ?_, ?_, ?_, ?_, ?_, ?_, ?_, ?_, ?_, ?_, ?_, ?_, ?_, ?_⟩
    all_goals first | (go_simp; done) | (intro j; go_simp; done) | skip
    go_grown
  case round =>
    obtain ⟨k, p0, p1, p2, p3, rfl, hst, hk, g0, g1, g2, g3, cx0, cx1, cy0, cy1, c0, c1, c2, c3, hf, hf', z0, z1, z2, z3, hb⟩ := hrel
    by_cases k0 : k = 0
    · subst k0
      obtain ⟨rfl, rfl, rfl, rfl⟩ : p0 = 0 ∧ p1 = 0 ∧ p2 = 0 ∧ p3 = 0 := by rcases hst.out with h | h | h <;> omega
      go_wp2
      refine wp_loop_rounds 3 ?_
      rw [rounds_succ]; go_wp2
      go_quiet (fail)
      go_wp2
      rw [rounds_succ]; go_wp2
      go_quiet (fail)
      go_wp2
      rw [rounds_succ]; go_wp2
      go_roundw
      case rel =>
        refine ⟨1, x0 * y0 % 4294967296, (x0 * y1 + x0 * y0 / 4294967296) % 4294967296, (x0 * y1 + x0 * y0 / 4294967296) / 4294967296, 0, by go_num, .inr (.inl ⟨rfl, rfl, by omega⟩), by omega, by omega, by omega, by omega, by omega, ?_, ?_, ?_, ?_, ?_, ?_, ?_, ?_, ?_, ?_, ?_, ?_, ?_, ?_, ?_⟩
        all_goals first | (go_simp; done) | (intro j; go_simp; done) | skip
        exact ((below_drewN ((below_drewN hb _).setCell (by dsimp only; omega) _) _).setCell (by dsimp only; omega) _).setCell (by dsimp only; omega) _
      case measure => simp [intOf]
    · by_cases k1 : k = 1
      · subst k1
        obtain ⟨rfl, HV⟩ : p3 = 0 ∧ Hid (p0 + 4294967296 * p1 + 18446744073709551616 * p2 = x0 * y0 + 4294967296 * (x0 * y1)) := by rcases hst.out with h | h | h <;> first | exact ⟨h.2.1, h.2.2⟩ | omega
        go_wp2
        refine wp_loop_rounds 3 ?_
        rw [rounds_succ]; go_wp2
        go_quiet (fail)
        go_wp2
        rw [rounds_succ]; go_wp2
        go_quiet (fail)
        go_wp2
        rw [rounds_succ]; go_wp2
        go_roundw
        case rel =>
          have HV' := HV.out
          refine ⟨2, p0, (x1 * y0 + p1) % 4294967296, (x1 * y1 + p2 + (x1 * y0 + p1) / 4294967296) % 4294967296, (x1 * y1 + p2 + (x1 * y0 + p1) / 4294967296) / 4294967296, by go_num, .inr (.inr ⟨rfl, by omega⟩), by omega, by omega, by omega, by omega, by omega, ?_, ?_, ?_, ?_, ?_, ?_, ?_, ?_, ?_, ?_, ?_, ?_, ?_, ?_, ?_⟩
          all_goals first | (go_simp; done) | (intro j; go_simp; done) | skip
          exact ((below_drewN ((below_drewN hb _).setCell (by dsimp only; omega) _) _).setCell (by dsimp only; omega) _).setCell (by dsimp only; omega) _
        case measure => simp [intOf]
      · have k2 : k = 2 := by omega
        subst k2
        go_wp2
        have HV : p0 + 4294967296 * p1 + 18446744073709551616 * p2 + 79228162514264337593543950336 * p3 = x0 * y0 + 4294967296 * (x0 * y1 + x1 * y0) + 18446744073709551616 * (x1 * y1) := by rcases hst.out with h | h | h <;> first | exact h.2 | omega
        refine bodyPost_ret (v := .agg #[.int .u32 p0, .int .u32 p1, .int .u32 p2, .int .u32 p3]) (by simp [results, Try.results84, go_sem, *]) rfl ⟨p0, p1, p2, p3, rfl, g0, g1, g2, g3, ?_, ?_⟩
        · rw [HA.out, HB.out, mul_parts]; exact HV
        · go_grown
end Go.Proofs.Ytoeiheccmpjclaf
namespace Go.Proofs.Ytoeiheccmpjclaf
open Go.ChangeShapes Go.WideShapes Go.ChangeAt Go.RowKit
set_option maxRecDepth 100000
set_option linter.unusedVariables false

set_option maxHeartbeats 1000000 in
theorem divide_any (p0 p1 p2 p3 c N : Nat) (w : World) (h0 : p0 ≤ 4294967295) (h1 : p1 ≤ 4294967295) (h2 : p2 ≤ 4294967295) (h3 : p3 ≤ 4294967295) (hc : 1 ≤ c) (hc' : c ≤ 9223372036854775807)
    (HN : Hid (N = p0 + 4294967296 * p1 + 18446744073709551616 * p2 + 79228162514264337593543950336 * p3)) :
    Calls Try.prog 83 #[.agg #[.int .u32 p0, .int .u32 p1, .int .u32 p2, .int .u32 p3], .int .u64 c] w fun e w' => ∃ (q : Nat) (f : Bool), e = .returned (.tuple #[.int .u64 q, .bool f]) ∧
      (f = true → q = N / c ∧ N / c ≤ 9223372036854775807) ∧ (f = false → 9223372036854775807 < N / c) ∧ Below w.heap.size w w' := by
  obtain ⟨wd, hwd⟩ : ∃ wd : Nat → Nat, wd = fun k => if k = 0 then p0 else if k = 1 then p1 else if k = 2 then p2 else p3 := ⟨_, rfl⟩
  have HC : Hid (∀ k : Nat, k < 4 → (w.alloc (Obj.cells #[.int .u32 p0, .int .u32 p1, .int .u32 p2, .int .u32 p3] 99)).cell? ⟨w.heap.size, k, none⟩ = some (.int .u32 (wd k))) := by
    intro k hk
    match k, hk with
    | 0, _ => go_simp
    | 1, _ => go_simp
    | 2, _ => go_simp
    | 3, _ => go_simp
  have HW : Hid (∀ k, k < 4 → wd k ≤ 4294967295 ∧ wd k = N / 2 ^ (32 * k) % 4294967296) := by
    intro k hk
    have := HN.out
    match k, hk with
    | 0, _ => rw [hwd]; dsimp only; rw [if_pos rfl]; omega
    | 1, _ => rw [hwd]; dsimp only; rw [if_neg (by decide), if_pos rfl]; omega
    | 2, _ => rw [hwd]; dsimp only; rw [if_neg (by decide), if_neg (by decide), if_pos rfl]; omega
    | 3, _ => rw [hwd]; dsimp only; rw [if_neg (by decide), if_neg (by decide), if_neg (by decide)]; omega
  clear hwd
  go_enter Try.func83, Try.ntmps83
  go_wp2; go_step3
  go_wp2; go_step3
  go_wp2
  go_loop [6, 7, 8, 9] (fun sq sr sf si => ∃ q r m : Nat, sq = .int .u64 q ∧ sr = .int .u64 r ∧ sf = .bool true ∧ ((si = .int .i64 (-1) ∧ m = 0) ∨ (∃ k : Nat, m = k + 1 ∧ si = .int .i64 k)) ∧ m ≤ 4 ∧ DivSt N c (32 * m) q r) (fun _ _ _ i => (intOf i + 1).toNat)
  case atStart =>
    refine ⟨0, 0, 4, rfl, rfl, rfl, .inr ⟨3, rfl, rfl⟩, by omega, ?_, by omega, by omega⟩
    have := HN.out
    omega
  case round =>
    obtain ⟨q, r, m, rfl, rfl, rfl, ⟨rfl, rfl⟩ | ⟨k, rfl, rfl⟩, hm, hst⟩ := hrel
    · go_wp2
      go_ret2
      exact ⟨q, true, rfl, fun _ => divSt_end hst, (fun h => by cases h), by go_grown⟩
    · have hcell := HC.out k (by omega)
      have hwk := (HW.out k (by omega)).1
      have hk4 : (k : Int) < 4 := by omega
      go_wp2
      go_loop [6, 7, 8, 10] (fun sq sr sf sb => ∃ q r s : Nat, sq = .int .u64 q ∧ sr = .int .u64 r ∧ sf = .bool true ∧ ((sb = .int .i64 (-1) ∧ s = 0) ∨ (∃ j : Nat, s = j + 1 ∧ sb = .int .i64 j)) ∧ s ≤ 32 ∧ DivSt N c (32 * k + s) q r) (fun _ _ _ i => (intOf i + 1).toNat)
      case atStart => exact ⟨q, r, 32, rfl, rfl, rfl, .inr ⟨31, rfl, rfl⟩, by omega, hst⟩
      case round =>
        obtain ⟨q, r, s, rfl, rfl, rfl, ⟨rfl, rfl⟩ | ⟨j, rfl, rfl⟩, hs, hst⟩ := hrel
        · go_wp2
          go_round
          case rel =>
            refine ⟨q, r, k, rfl, rfl, rfl, ?_, by omega, hst⟩
            cases k with
            | zero => exact .inl ⟨by go_num, rfl⟩
            | succ k => exact .inr ⟨k, rfl, by go_num⟩
          case measure => first | (simp [intOf]; done) | (simp [intOf]; omega)
        · have hq := hst.2.2
          have hr := hst.2.1
          have HB := bit_of_word N k j (by omega)
          rw [← (HW.out k (by omega)).2] at HB
          obtain ⟨β, hβ⟩ : ∃ β : Nat, β = N / 2 ^ (32 * k + j) % 2 := ⟨_, rfl⟩
          have hb1 : β ≤ 1 := by omega
          have hle : wd k / 2 ^ j ≤ wd k := Nat.div_le_self _ _
          have hand : bits .and .u32 ((wd k : Int) / 2 ^ j) 1 = (β : Int) := by
            rw [show ((wd k : Int) / 2 ^ j) = ((wd k / 2 ^ j : Nat) : Int) by simp, hβ, ← HB]
            generalize wd k / 2 ^ j = Y at hle
            rw [and1_u32 _ (by omega) (by omega)]
            omega
          have hor : bits .or .u64 ((r : Int) * 2) (β : Int) = (r : Int) * 2 + β := or1_u64 _ _ (by omega) (by omega) (by omega) (by omega) (by omega)
          have Hyes : Hid (q ≤ 4611686018427387903 → c ≤ 2 * r + β → DivSt N c (32 * k + j) (2 * q + 1) (2 * r + β - c)) := by
            intro g1 g2; rw [hβ] at g2 ⊢; exact divSt_yes hst g1 g2
          have Hno : Hid (q ≤ 4611686018427387903 → 2 * r + β < c → DivSt N c (32 * k + j) (2 * q) (2 * r + β)) := by
            intro g1 g2; rw [hβ] at g2 ⊢; exact divSt_no hst g1 g2
          have Hov : Hid (4611686018427387903 < q → 9223372036854775807 < N / c) := fun g => divSt_over hst g
          clear HB hβ hle
          by_cases hover : 4611686018427387903 < q
          · go_wp2
            go_ret2
            exact ⟨q, false, rfl, (fun h => by cases h), fun _ => Hov.out hover, by go_grown⟩
          · have hor1 : bits .or .u64 ((q : Int) * 2) 1 = (q : Int) * 2 + 1 := or1_u64 _ _ (by omega) (by omega) (by omega) (by omega) (by omega)
            by_cases hge : c ≤ 2 * r + β
            · go_wp2
              go_round
              case rel =>
                refine ⟨2 * q + 1, 2 * r + β - c, j, by go_num, by go_num, rfl, ?_, by omega, Hyes.out (by omega) hge⟩
                cases j with
                | zero => exact .inl ⟨by go_num, rfl⟩
                | succ j => exact .inr ⟨j, rfl, by go_num⟩
              case measure => first | (simp [intOf]; done) | (simp [intOf]; omega)
            · go_wp2
              go_round
              case rel =>
                refine ⟨2 * q, 2 * r + β, j, by go_num, by go_num, rfl, ?_, by omega, Hno.out (by omega) (by omega)⟩
                cases j with
                | zero => exact .inl ⟨by go_num, rfl⟩
                | succ j => exact .inr ⟨j, rfl, by go_num⟩
              case measure => first | (simp [intOf]; done) | (simp [intOf]; omega)
end Go.Proofs.Ytoeiheccmpjclaf
namespace Go.Proofs.Ytoeiheccmpjclaf
open Go.ChangeShapes Go.WideShapes Go.ChangeAt Go.RowKit
set_option maxRecDepth 100000
set_option linter.unusedVariables false

def mdOk (a b c : Int) : Bool := decide (0 ≤ a ∧ 0 ≤ b ∧ 1 ≤ c ∧ a * b / c ≤ 9223372036854775807)
def mdQ (a b c : Int) : Int := if mdOk a b c then a * b / c else 0

theorem md_out {a b c : Int} (h : a < 0 ∨ b < 0 ∨ c < 1) : mdOk a b c = false ∧ mdQ a b c = 0 := by
  have : mdOk a b c = false := by unfold mdOk; exact decide_eq_false (by omega)
  exact ⟨this, by unfold mdQ; rw [this]; rfl⟩
theorem md_cast (A B C : Nat) : (A : Int) * (B : Int) / (C : Int) = ((A * B / C : Nat) : Int) := by simp
theorem md_yes {A B C : Nat} (hc : 1 ≤ C) (h : A * B / C ≤ 9223372036854775807) : mdOk A B C = true ∧ mdQ A B C = ((A * B / C : Nat) : Int) := by
  have : mdOk A B C = true := by
    unfold mdOk; rw [md_cast]; generalize A * B / C = Q at *; exact decide_eq_true (by omega)
  exact ⟨this, by unfold mdQ; rw [this, md_cast]; rfl⟩
theorem md_no {A B C : Nat} (h : 9223372036854775807 < A * B / C) : mdOk A B C = false ∧ mdQ A B C = 0 := by
  have : mdOk A B C = false := by
    unfold mdOk; rw [md_cast]; generalize A * B / C = Q at *; exact decide_eq_false (by omega)
  exact ⟨this, by unfold mdQ; rw [this]; rfl⟩
theorem ret_two {k : IntKind} {a b : Int} {f g : Bool} (h : a = b) (h' : f = g) : Ending.returned (.tuple #[.int k a, .bool f]) = .returned (.tuple #[.int k b, .bool g]) := by rw [h, h']

theorem multiply_nat (A B : Nat) (w : World) (a1 : A ≤ 9223372036854775807) (b1 : B ≤ 9223372036854775807) :
    Calls Try.prog 84 #[.int .u64 A, .int .u64 B] w fun e w' => ∃ p0 p1 p2 p3 : Nat, e = .returned (.agg #[.int .u32 p0, .int .u32 p1, .int .u32 p2, .int .u32 p3]) ∧
      p0 ≤ 4294967295 ∧ p1 ≤ 4294967295 ∧ p2 ≤ 4294967295 ∧ p3 ≤ 4294967295 ∧
      Hid (A * B = p0 + 4294967296 * p1 + 18446744073709551616 * p2 + 79228162514264337593543950336 * p3) ∧ Below w.heap.size w w' := by
  refine (multiply_any A B w (by omega) (by omega) (by omega) (by omega)).mono ?_
  rintro e w' ⟨p0, p1, p2, p3, rfl, g0, g1, g2, g3, hv, hb⟩
  obtain ⟨P0, rfl⟩ := Int.eq_ofNat_of_zero_le g0.1
  obtain ⟨P1, rfl⟩ := Int.eq_ofNat_of_zero_le g1.1
  obtain ⟨P2, rfl⟩ := Int.eq_ofNat_of_zero_le g2.1
  obtain ⟨P3, rfl⟩ := Int.eq_ofNat_of_zero_le g3.1
  refine ⟨P0, P1, P2, P3, rfl, by omega, by omega, by omega, by omega, ?_, hb⟩
  show _ = _
  have : ((A * B : Nat) : Int) = (A : Int) * B := by simp
  omega

theorem divide_hid (p0 p1 p2 p3 c N : Nat) (w : World) (h0 : p0 ≤ 4294967295) (h1 : p1 ≤ 4294967295) (h2 : p2 ≤ 4294967295) (h3 : p3 ≤ 4294967295) (hc : 1 ≤ c) (hc' : c ≤ 9223372036854775807)
    (HN : Hid (N = p0 + 4294967296 * p1 + 18446744073709551616 * p2 + 79228162514264337593543950336 * p3)) :
    Calls Try.prog 83 #[.agg #[.int .u32 p0, .int .u32 p1, .int .u32 p2, .int .u32 p3], .int .u64 c] w fun e w' => ∃ (q : Nat) (f : Bool), e = .returned (.tuple #[.int .u64 q, .bool f]) ∧
      Hid ((f = true → q = N / c ∧ N / c ≤ 9223372036854775807) ∧ (f = false → 9223372036854775807 < N / c)) ∧ Below w.heap.size w w' := by
  refine (divide_any p0 p1 p2 p3 c N w h0 h1 h2 h3 hc hc' HN).mono ?_
  rintro e w' ⟨q, f, rfl, hy, hn, hb⟩
  exact ⟨q, f, rfl, ⟨hy, hn⟩, hb⟩

set_option maxHeartbeats 400000 in
theorem implMulDiv_in (A B C : Nat) (w : World) (a1 : A ≤ 9223372036854775807) (b1 : B ≤ 9223372036854775807) (c0 : 1 ≤ C) (c1 : C ≤ 9223372036854775807) :
    Calls Try.prog 82 #[.int .i64 A, .int .i64 B, .int .i64 C] w fun e w' => e = .returned (.tuple #[.int .i64 (mdQ A B C), .bool (mdOk A B C)]) ∧ Below w.heap.size w w' := by
  go_enter Try.func82, Try.ntmps82
  go_wp2_with (first
    | (go_at_call 84; refine (multiply_nat A B _ a1 b1).mono ?_; rintro e w1 ⟨p0, p1, p2, p3, rfl, g0, g1, g2, g3, hv, hb1⟩)
    | (go_at_call 83; refine (divide_hid p0 p1 p2 p3 C _ _ g0 g1 g2 g3 c0 c1 hv).mono ?_; rintro e w2 ⟨q, f, rfl, hyn, hb2⟩; cases f))
  · go_ret2
    have h := md_no (hyn.out.2 (by simp))
    exact ⟨ret_two h.2.symm h.1.symm, hb1.trans (hb2.mono hb1.size)⟩
  · go_ret2
    obtain ⟨hq, hle⟩ := hyn.out.1 (by simp)
    have h := md_yes c0 hle
    exact ⟨ret_two (by rw [h.2, ← hq]; exact IntWalk.wrap64_in _ (by omega)) h.1.symm, hb1.trans (hb2.mono hb1.size)⟩

theorem implMulDiv_out (a b c : Int) (w : World) (h : a < 0 ∨ b < 0 ∨ c < 1) :
    Calls Try.prog 82 #[.int .i64 a, .int .i64 b, .int .i64 c] w fun e w' => e = .returned (.tuple #[.int .i64 (mdQ a b c), .bool (mdOk a b c)]) ∧ Below w.heap.size w w' := by
  have h' := md_out h
  rw [h'.1, h'.2]
  clear h'
  by_cases ha : a < 0
  · go_enter Try.func82, Try.ntmps82
    go_wp2
    go_ret2
    exact ⟨rfl, Below.refl _ _⟩
  · by_cases hb : b < 0
    · go_enter Try.func82, Try.ntmps82
      go_wp2
      go_ret2
      exact ⟨rfl, Below.refl _ _⟩
    · have hc : c < 1 := by omega
      go_enter Try.func82, Try.ntmps82
      go_wp2
      go_ret2
      exact ⟨rfl, Below.refl _ _⟩

theorem implMulDiv_any (a b c : Int) (w : World) (a1 : a ≤ 9223372036854775807) (b1 : b ≤ 9223372036854775807) (c1 : c ≤ 9223372036854775807) :
    Calls Try.prog 82 #[.int .i64 a, .int .i64 b, .int .i64 c] w fun e w' => e = .returned (.tuple #[.int .i64 (mdQ a b c), .bool (mdOk a b c)]) ∧ Below w.heap.size w w' := by
  by_cases h : a < 0 ∨ b < 0 ∨ c < 1
  · exact implMulDiv_out a b c w h
  · obtain ⟨A, rfl⟩ := Int.eq_ofNat_of_zero_le (show 0 ≤ a by omega)
    obtain ⟨B, rfl⟩ := Int.eq_ofNat_of_zero_le (show 0 ≤ b by omega)
    obtain ⟨C, rfl⟩ := Int.eq_ofNat_of_zero_le (show 0 ≤ c by omega)
    exact implMulDiv_in A B C w (by omega) (by omega) (by omega) (by omega)
end Go.Proofs.Ytoeiheccmpjclaf
namespace Go.Proofs.Ytoeiheccmpjclaf
open Go.ChangeShapes Go.WideShapes Go.ChangeAt Go.RowKit
set_option maxRecDepth 100000
set_option linter.unusedVariables false

theorem mask32_u64 (x : Int) (h₀ : 0 ≤ x) (h₁ : x < 18446744073709551616) : bits .and .u64 x 4294967295 = x % 4294967296 := by
  have := bits_mask .u64 64 (by decide) wraps_u64 32 (by decide) x h₀ (by simpa using h₁)
  simpa using this

theorem mul_bd2 (x y : Int) (hx : 0 ≤ x ∧ x ≤ 4294967295) (hy : 0 ≤ y ∧ y ≤ 2147483647) : 0 ≤ x * y ∧ x * y ≤ 9223372030412324865 :=
  ⟨Int.mul_nonneg hx.1 hy.1, by have := Int.mul_le_mul hx.2 hy.2 hy.1 (by omega : (0 : Int) ≤ 4294967295); omega⟩
theorem mul_bd3 (x y : Int) (hx : 0 ≤ x ∧ x ≤ 2147483647) (hy : 0 ≤ y ∧ y ≤ 2147483647) : 0 ≤ x * y ∧ x * y ≤ 4611686014132420609 :=
  ⟨Int.mul_nonneg hx.1 hy.1, by have := Int.mul_le_mul hx.2 hy.2 hy.1 (by omega : (0 : Int) ≤ 2147483647); omega⟩

end Go.Proofs.Ytoeiheccmpjclaf

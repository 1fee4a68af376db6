/- What impl.multiply answers: the product of two numbers of 64 bits as four words of 32 bits; only new memory is touched. -/
import Derived.Test.YtoeiheccmpjclaqRows
import Derived.Test.YtoeiheccmpjclaqBits
import Derived.Deep.QuietTactic
import Derived.BigQuiet
import Derived.Outline
import Derived.LoopN
import Derived.Handy
import Derived.WalkSmall
namespace Go.Proofs.Ytoeiheccmpjclaq
open Go.ChangeShapes Go.WideShapes Go.ChangeAt Go.RowKit
set_option maxRecDepth 100000
set_option linter.unusedVariables false

theorem mul_bd (x y : Int) (hx : 0 ≤ x ∧ x ≤ 4294967295) (hy : 0 ≤ y ∧ y ≤ 4294967295) : 0 ≤ x * y ∧ x * y ≤ 18446744065119617025 :=
  ⟨Int.mul_nonneg hx.1 hy.1, by have := Int.mul_le_mul hx.2 hy.2 hy.1 (by omega : (0 : Int) ≤ 4294967295); omega⟩
theorem mul_parts (x0 x1 y0 y1 : Int) :
    (x0 + 4294967296 * x1) * (y0 + 4294967296 * y1) = x0 * y0 + 4294967296 * (x0 * y1 + x1 * y0) + 18446744073709551616 * (x1 * y1) := by
  grind

/-- The product so far: behind k rounds of the outer loop. -/
def mulSt (x0 x1 y0 y1 : Int) (k : Int) (p0 p1 p2 p3 : Int) : Prop :=
  (k = 0 ∧ p0 = 0 ∧ p1 = 0 ∧ p2 = 0 ∧ p3 = 0) ∨
  (k = 1 ∧ p3 = 0 ∧ p0 + 4294967296 * p1 + 18446744073709551616 * p2 = x0 * y0 + 4294967296 * (x0 * y1)) ∨
  (k = 2 ∧ p0 + 4294967296 * p1 + 18446744073709551616 * p2 + 79228162514264337593543950336 * p3 = x0 * y0 + 4294967296 * (x0 * y1 + x1 * y0) + 18446744073709551616 * (x1 * y1))

set_option maxHeartbeats 1000000 in
theorem multiply_any (a b : Int) (w : World) (a0 : 0 ≤ a) (a1 : a ≤ 9223372036854775807) (b0 : 0 ≤ b) (b1 : b ≤ 9223372036854775807) :
    Calls Try.prog 92 #[.int .u64 a, .int .u64 b] w fun e w' => ∃ p0 p1 p2 p3 : Int, e = .returned (.agg #[.int .u32 p0, .int .u32 p1, .int .u32 p2, .int .u32 p3]) ∧
      (0 ≤ p0 ∧ p0 ≤ 4294967295) ∧ (0 ≤ p1 ∧ p1 ≤ 4294967295) ∧ (0 ≤ p2 ∧ p2 ≤ 4294967295) ∧ (0 ≤ p3 ∧ p3 ≤ 4294967295) ∧
      p0 + 4294967296 * p1 + 18446744073709551616 * p2 + 79228162514264337593543950336 * p3 = a * b ∧ Below w.heap.size w w' := by
  have hx0 : 0 ≤ a % 4294967296 ∧ a % 4294967296 ≤ 4294967295 := by omega
  have hx1 : 0 ≤ a / 4294967296 ∧ a / 4294967296 ≤ 4294967295 := by omega
  have hy0 : 0 ≤ b % 4294967296 ∧ b % 4294967296 ≤ 4294967295 := by omega
  have hy1 : 0 ≤ b / 4294967296 ∧ b / 4294967296 ≤ 4294967295 := by omega
  have HA : Hid (a = a % 4294967296 + 4294967296 * (a / 4294967296)) := by show _ = _; omega
  have HB : Hid (b = b % 4294967296 + 4294967296 * (b / 4294967296)) := by show _ = _; omega
  go_enter Try.func92, Try.ntmps92
  go_wp2
  generalize a % 4294967296 = x0 at *
  generalize a / 4294967296 = x1 at *
  generalize b % 4294967296 = y0 at *
  generalize b / 4294967296 = y1 at *
  have h00 := mul_bd x0 y0 hx0 hy0
  have h01 := mul_bd x0 y1 hx0 hy1
  have h10 := mul_bd x1 y0 hx1 hy0
  have h11 := mul_bd x1 y1 hx1 hy1
  go_loopw [24] (fun i wr => ∃ k p0 p1 p2 p3 : Int, i = .int .i64 k ∧ Hid (mulSt x0 x1 y0 y1 k p0 p1 p2 p3) ∧ (0 ≤ k ∧ k ≤ 2) ∧ (0 ≤ p0 ∧ p0 ≤ 4294967295) ∧ (0 ≤ p1 ∧ p1 ≤ 4294967295) ∧ (0 ≤ p2 ∧ p2 ≤ 4294967295) ∧ (0 ≤ p3 ∧ p3 ≤ 4294967295) ∧
      wr.cell? ⟨w.heap.size + 1, 0, none⟩ = some (.int .u32 x0) ∧ wr.cell? ⟨w.heap.size + 1, 1, none⟩ = some (.int .u32 x1) ∧
      wr.cell? ⟨w.heap.size + 1 + 1, 0, none⟩ = some (.int .u32 y0) ∧ wr.cell? ⟨w.heap.size + 1 + 1, 1, none⟩ = some (.int .u32 y1) ∧
      wr.cell? ⟨w.heap.size + 1 + 1 + 1, 0, none⟩ = some (.int .u32 p0) ∧ wr.cell? ⟨w.heap.size + 1 + 1 + 1, 1, none⟩ = some (.int .u32 p1) ∧
      wr.cell? ⟨w.heap.size + 1 + 1 + 1, 2, none⟩ = some (.int .u32 p2) ∧ wr.cell? ⟨w.heap.size + 1 + 1 + 1, 3, none⟩ = some (.int .u32 p3) ∧
      (∀ j, wr.frozen? ⟨w.heap.size + 1 + 1 + 1, j, none⟩ = false) ∧ (∀ j, wr.frozen? ⟨w.heap.size, j, none⟩ = false) ∧
      wr.cell? ⟨w.heap.size, 0, none⟩ = some (.int .u32 0) ∧ wr.cell? ⟨w.heap.size, 1, none⟩ = some (.int .u32 0) ∧
      wr.cell? ⟨w.heap.size, 2, none⟩ = some (.int .u32 0) ∧ wr.cell? ⟨w.heap.size, 3, none⟩ = some (.int .u32 0) ∧
      Below w.heap.size w wr) (fun i _ => 2 - (intOf i).toNat)
  case atStart =>
    refine ⟨0, 0, 0, 0, 0, rfl, .inl ⟨rfl, rfl, rfl, rfl, rfl⟩, by omega, by omega, by omega, by omega, by omega, ?_, ?_, ?_, ?_, ?_, ?_, ?_, ?_, ?_, ?_, ?_, ?_, ?_, ?_, ?_⟩
    all_goals first | (go_simp; done) | (intro j; go_simp; done) | skip
    go_grown
  case round =>
    obtain ⟨k, p0, p1, p2, p3, rfl, hst, hk, g0, g1, g2, g3, cx0, cx1, cy0, cy1, c0, c1, c2, c3, hf, hf', z0, z1, z2, z3, hb⟩ := hrel
    by_cases k0 : k = 0
    · subst k0
      obtain ⟨rfl, rfl, rfl, rfl⟩ : p0 = 0 ∧ p1 = 0 ∧ p2 = 0 ∧ p3 = 0 := by rcases hst.out with h | h | h <;> omega
      go_wp2
      refine wp_loop_rounds 3 ?_
      rw [rounds_succ]; go_wp2
      go_quiet (fail)
      go_wp2
      rw [rounds_succ]; go_wp2
      go_quiet (fail)
      go_wp2
      rw [rounds_succ]; go_wp2
      go_roundw
      case rel =>
        refine ⟨1, x0 * y0 % 4294967296, (x0 * y1 + x0 * y0 / 4294967296) % 4294967296, (x0 * y1 + x0 * y0 / 4294967296) / 4294967296, 0, by go_num, .inr (.inl ⟨rfl, rfl, by omega⟩), by omega, by omega, by omega, by omega, by omega, ?_, ?_, ?_, ?_, ?_, ?_, ?_, ?_, ?_, ?_, ?_, ?_, ?_, ?_, ?_⟩
        all_goals first | (go_simp; done) | (intro j; go_simp; done) | skip
        exact ((below_drewN ((below_drewN hb _).setCell (by dsimp only; omega) _) _).setCell (by dsimp only; omega) _).setCell (by dsimp only; omega) _
      case measure => simp [intOf]
    · by_cases k1 : k = 1
      · subst k1
        obtain ⟨rfl, HV⟩ : p3 = 0 ∧ Hid (p0 + 4294967296 * p1 + 18446744073709551616 * p2 = x0 * y0 + 4294967296 * (x0 * y1)) := by rcases hst.out with h | h | h <;> first | exact ⟨h.2.1, h.2.2⟩ | omega
        go_wp2
        refine wp_loop_rounds 3 ?_
        rw [rounds_succ]; go_wp2
        go_quiet (fail)
        go_wp2
        rw [rounds_succ]; go_wp2
        go_quiet (fail)
        go_wp2
        rw [rounds_succ]; go_wp2
        go_roundw
        case rel =>
          have HV' := HV.out
          refine ⟨2, p0, (x1 * y0 + p1) % 4294967296, (x1 * y1 + p2 + (x1 * y0 + p1) / 4294967296) % 4294967296, (x1 * y1 + p2 + (x1 * y0 + p1) / 4294967296) / 4294967296, by go_num, .inr (.inr ⟨rfl, by omega⟩), by omega, by omega, by omega, by omega, by omega, ?_, ?_, ?_, ?_, ?_, ?_, ?_, ?_, ?_, ?_, ?_, ?_, ?_, ?_, ?_⟩
          all_goals first | (go_simp; done) | (intro j; go_simp; done) | skip
          exact ((below_drewN ((below_drewN hb _).setCell (by dsimp only; omega) _) _).setCell (by dsimp only; omega) _).setCell (by dsimp only; omega) _
        case measure => simp [intOf]
      · have k2 : k = 2 := by omega
        subst k2
        go_wp2
        have HV : p0 + 4294967296 * p1 + 18446744073709551616 * p2 + 79228162514264337593543950336 * p3 = x0 * y0 + 4294967296 * (x0 * y1 + x1 * y0) + 18446744073709551616 * (x1 * y1) := by rcases hst.out with h | h | h <;> first | exact h.2 | omega
        refine bodyPost_ret (v := .agg #[.int .u32 p0, .int .u32 p1, .int .u32 p2, .int .u32 p3]) (by simp [results, Try.results92, go_sem, *]) rfl ⟨p0, p1, p2, p3, rfl, g0, g1, g2, g3, ?_, ?_⟩
        · rw [HA.out, HB.out, mul_parts]; exact HV
        · go_grown
end Go.Proofs.Ytoeiheccmpjclaq

/- laws.likeInts. -/
import Derived.Test.YtoeiheccmpjclafGrpE
namespace Go.Proofs.Ytoeiheccmpjclaf
open Go.ChangeShapes Go.WideShapes Go.ChangeAt Go.RowKit
set_option maxRecDepth 100000
set_option linter.unusedVariables false

set_option maxHeartbeats 1000000 in
theorem likeInts_any {w : World} {a b : Option Addr} (cap cap' : Nat) {xs ys : List Int} (ha : ISmp w.heap.size w a xs) (hb : ISmp w.heap.size w b ys) (hn : xs.length ≤ 4611686018427387904) :
    Calls Try.prog 53 #[.slice a xs.length cap, .slice b ys.length cap'] w fun e w' => e = .returned (.bool (decide (xs = ys))) ∧ Below w.heap.size w w' := by
  by_cases hl : xs.length = ys.length
  · rw [hl]
    have HL : Hid (xs.length = ys.length) := hl
    clear hl
    go_enter Try.func53, Try.ntmps53
    go_wp2
    go_loopw [5] (fun i wr => ∃ k : Nat, i = .int .i64 k ∧ k ≤ ys.length ∧ xs.take k = ys.take k ∧ Below w.heap.size w wr) (fun i _ => ys.length - (intOf i).toNat)
    case atStart => exact ⟨0, rfl, by omega, by simp, by go_grown⟩
    case round =>
      obtain ⟨k, rfl, hk, ht, hbw⟩ := hrel
      by_cases hlt2 : k < ys.length
      · have hlt : k < xs.length := by have := HL.out; omega
        obtain ⟨b1, o1, rfl, hb1, c0⟩ := ha.at hbw k hlt
        obtain ⟨b2, o2, rfl, hb2, d0⟩ := hb.at hbw k hlt2
        have hlt' : (k : Int) < (ys.length : Int) := by omega
        have hnn := hn
        have hly := HL.out
        rw [hly] at hnn
        clear hly
        have hk0 : (0 : Int) ≤ (k : Int) := by omega
        obtain ⟨p, hp⟩ : ∃ p, xs[k] = p := ⟨_, rfl⟩
        obtain ⟨q, hq⟩ : ∃ q, ys[k] = q := ⟨_, rfl⟩
        rw [hp] at c0
        rw [hq] at d0
        have HP : Hid (xs[k] = p) := hp
        have HQ : Hid (ys[k] = q) := hq
        clear hp hq
        by_cases hpq : p = q
        · subst hpq
          have HT : Hid (xs.take (k + 1) = ys.take (k + 1)) := by
            show xs.take (k + 1) = ys.take (k + 1)
            rw [List.take_succ_eq_append_getElem hlt, List.take_succ_eq_append_getElem hlt2, ht, HP.out, HQ.out]
          go_wp2
          go_quiet (fail)
          go_wp2
          go_roundw
          case rel => exact ⟨k + 1, by go_num, by omega, HT.out, below_drews hbw _⟩
          case measure => first | (simp [intOf]; done) | (simp [intOf]; omega)
        · have hpq' : (p == q) = false := by simp [hpq]
          go_wp2
          go_quiet (fail)
          go_wp2
          go_ret
          exact ⟨ret_b (decide_eq_false (fun e => hpq (by rw [← HP.out, ← HQ.out]; subst e; rfl))).symm, below_drews hbw _⟩
      · have e : k = ys.length := by omega
        subst e
        have hxy : xs = ys := by
          rw [List.take_length, ← HL.out, List.take_length] at ht; exact ht
        go_wp2
        go_ret
        exact ⟨ret_b (decide_eq_true hxy).symm, hbw⟩
  · have hlb : ((xs.length : Int) == (ys.length : Int)) = false := by simp; omega
    rw [decide_eq_false (fun e => hl (by rw [e]))]
    go_enter Try.func53, Try.ntmps53
    go_wp2
    go_ret
    exact ⟨rfl, by go_grown⟩
theorem likeI_any {w : World} {lo lo' : Nat} {v v' : Value} {xs ys : List Int} (ha : IV w lo v xs) (hb : IV w lo' v' ys) (hn : xs.length ≤ 4611686018427387904) :
    Calls Try.prog 53 #[v, v'] w fun e w' => e = .returned (.bool (decide (xs = ys))) ∧ Below w.heap.size w w' := by
  obtain ⟨a, c, rfl, h1⟩ := ha.smp
  obtain ⟨a', c', rfl, h2⟩ := hb.smp
  exact likeInts_any c c' h1 h2 hn
end Go.Proofs.Ytoeiheccmpjclaf

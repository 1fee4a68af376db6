/- laws.likeFilter at two like filters. -/
import Derived.Test.YtiibafphgjlffaeFiltV
namespace Go.Proofs.Ytiibafphgjlffae
open Go.ChangeShapes Go.WideShapes Go.ChangeAt Go.RowKit
set_option maxRecDepth 100000
set_option linter.unusedVariables false
set_option linter.unusedSimpArgs false

theorem FV.slice {w : World} {lo : Nat} {v : Value} {ys : List (Int × Int)} (h : FV w lo v ys) : ∃ a c, v = .slice a ys.length c ∧ Smp w.heap.size w a ys := by
  rcases h with ⟨g, cap, rfl, h1, h2, f, hc⟩ | ⟨rfl, rfl⟩
  · exact ⟨_, _, rfl, f.smp h2⟩
  · exact ⟨none, 0, rfl, fun i h => by cases h⟩
set_option maxHeartbeats 4000000 in
theorem likeF_same {w : World} {lo lo' : Nat} {v v' : Value} {ys : List (Int × Int)} (ha : FV w lo v ys) (hb : FV w lo' v' ys) (hn : ys.length ≤ 4611686018427387904) :
    Calls Try.prog 94 #[.agg #[v], .agg #[v']] w fun e w' => e = .returned (.bool true) ∧ Below w.heap.size w w' := by
  obtain ⟨a1, c1, rfl, s1⟩ := ha.slice
  obtain ⟨a2, c2, rfl, s2⟩ := hb.slice
  clear ha hb
  obtain ⟨x, hx⟩ : ∃ x, x = (w.alloc (.cells #[.slice a1 ys.length c1] 51)).alloc (.cells #[.slice a2 ys.length c2] 51) := ⟨_, rfl⟩
  have hbx : Below w.heap.size w x := by rw [hx]; go_grown
  have hxz : w.heap.size + 1 < x.heap.size := by rw [hx]; simp
  have x0 : x.cell? ⟨w.heap.size, 0, none⟩ = some (.slice a1 ys.length c1) := by rw [hx]; go_simp
  have y0 : x.cell? ⟨w.heap.size + 1, 0, none⟩ = some (.slice a2 ys.length c2) := by rw [hx]; go_simp
  go_enter Try.func94, Try.ntmps94
  go_upto_region 1 with fail
  rw [← hx]
  clear hx
  go_wp2
  go_loopw [5] (fun i wr => ∃ (k : Nat) (m : Nat), i = .int .i64 k ∧ k ≤ ys.length ∧ wr = x.drewN m) (fun i _ => ys.length - (intOf i).toNat)
  case atStart => exact ⟨0, 0, rfl, by omega, rfl⟩
  case round =>
    obtain ⟨k, m, rfl, hk, rfl⟩ := hrel
    by_cases hlt : k < ys.length
    · obtain ⟨b1, o1, rfl, hb1, c0, c1'⟩ := s1.at hbx k hlt
      obtain ⟨b2, o2, rfl, hb2, d0, d1'⟩ := s2.at hbx k hlt
      have hlt' : (k : Int) < (ys.length : Int) := by omega
      have hk0 : (0 : Int) ≤ (k : Int) := by omega
      obtain ⟨p, hp⟩ : ∃ p, ys[k].1 = p := ⟨_, rfl⟩
      obtain ⟨q, hq⟩ : ∃ q, ys[k].2 = q := ⟨_, rfl⟩
      rw [hp] at c0 d0
      rw [hq] at c1' d1'
      clear hp hq
      go_wp2
      go_quiet (fail)
      go_wp2
      go_roundw
      case rel => exact ⟨k + 1, _, by go_num, by omega, rfl⟩
      case measure => first | (simp [intOf]; done) | (simp [intOf]; omega)
    · have e : k = ys.length := by omega
      subst e
      go_wp2
      go_ret
      exact ⟨rfl, ⟨hbx.os, hbx.tape, hbx.output, hbx.size, hbx.block⟩⟩
end Go.Proofs.Ytiibafphgjlffae

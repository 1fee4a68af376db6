/- The laws' other comparisons: likeInts, likeWheel. -/
import Derived.Test.YtdgefdjgpneanacLikeI
import Derived.Test.YtdgefdjgpneanacWhl
namespace Go.Proofs.Ytdgefdjgpneanac
open Go.ChangeShapes Go.WideShapes Go.ChangeAt Go.RowKit
set_option maxRecDepth 100000
set_option linter.unusedVariables false

set_option maxHeartbeats 2000000 in
theorem likeWheel_same {w : World} (t : Int) {a b : Option Addr} (cap cap' : Nat) {xs : List (Int × Int)} (ha : Smp w.heap.size w a xs) (hb : Smp w.heap.size w b xs) (hnn : xs.length ≤ 1000000) :
    Calls Try.prog 21 #[.agg #[.int .i64 t, .slice a xs.length cap], .agg #[.int .i64 t, .slice b xs.length cap']] w fun e w' => e = .returned (.bool true) ∧ Below w.heap.size w w' := by
  have cp0 : ((w.alloc (.cells #[.int .i64 t, .slice a xs.length cap] 36)).alloc (.cells #[.int .i64 t, .slice b xs.length cap'] 36)).cell? ⟨w.heap.size, 1, none⟩ = some (.slice a xs.length cap) := by go_simp
  have cp1 : ((w.alloc (.cells #[.int .i64 t, .slice a xs.length cap] 36)).alloc (.cells #[.int .i64 t, .slice b xs.length cap'] 36)).cell? ⟨w.heap.size + 1, 1, none⟩ = some (.slice b xs.length cap') := by go_simp
  go_enter Try.func21, Try.ntmps21
  go_wp2
  go_loopw [5] (fun i wr => ∃ k : Nat, i = .int .i64 k ∧ k ≤ xs.length ∧ Below ((w.alloc (.cells #[.int .i64 t, .slice a xs.length cap] 36)).alloc (.cells #[.int .i64 t, .slice b xs.length cap'] 36)).heap.size ((w.alloc (.cells #[.int .i64 t, .slice a xs.length cap] 36)).alloc (.cells #[.int .i64 t, .slice b xs.length cap'] 36)) wr) (fun i _ => xs.length - (intOf i).toNat)
  case atStart => exact ⟨0, rfl, by omega, Below.refl _ _⟩
  case round =>
    obtain ⟨k, rfl, hk, hp⟩ := hrel
    have s0 := (below_cells hp _ _ (by simp; omega)).trans cp0
    have s1 := (below_cells hp _ _ (by simp)).trans cp1
    have hbw : Below w.heap.size w wr := below_step (w := w) (by go_grown) hp
    by_cases hlt : k < xs.length
    · obtain ⟨b1, o1, rfl, hb1, c0, c1⟩ := ha.at hbw k hlt
      obtain ⟨b2, o2, rfl, hb2, d0, d1⟩ := hb.at hbw k hlt
      have hlt' : (k : Int) < (xs.length : Int) := by omega
      have hk0 : (0 : Int) ≤ (k : Int) := by omega
      obtain ⟨x, hx⟩ : ∃ x, xs[k] = x := ⟨_, rfl⟩
      rw [hx] at c0 c1 d0 d1
      obtain ⟨p, q⟩ := x
      clear hx
      simp only at c0 c1 d0 d1
      go_wp2
      go_quiet (fail)
      go_wp2
      go_roundw
      case rel => exact ⟨k + 1, by go_num, by omega, below_drews hp _⟩
      case measure => first | (simp [intOf]; done) | (simp [intOf]; omega)
    · have e : k = xs.length := by omega
      subst e
      go_wp2
      go_ret
      exact ⟨rfl, hbw⟩
theorem likeW_same {w : World} (t : Int) {lo lo' : Nat} {v v' : Value} {xs : List (Int × Int)} (ha : FW w lo v xs) (hb : FW w lo' v' xs) (hn : xs.length ≤ 1000000) :
    Calls Try.prog 21 #[.agg #[.int .i64 t, v], .agg #[.int .i64 t, v']] w fun e w' => e = .returned (.bool true) ∧ Below w.heap.size w w' := by
  rcases ha with ⟨g, cap, rfl, h1, h2, f, hc⟩ | ⟨⟨a, rfl⟩, rfl⟩
  · rcases hb with ⟨g', cap', rfl, h1', h2', f', hc'⟩ | ⟨⟨a', rfl⟩, rfl⟩
    · exact likeWheel_same _ _ _ (f.smp h2) (f'.smp h2') hn
    · exact likeWheel_same (xs := []) _ _ 0 (f.smp h2) (fw_nil w a') hn
  · rcases hb with ⟨g', cap', rfl, h1', h2', f', hc'⟩ | ⟨⟨a', rfl⟩, _⟩
    · exact likeWheel_same (xs := []) _ 0 _ (fw_nil w a) (f'.smp h2') hn
    · exact likeWheel_same (xs := []) _ 0 0 (fw_nil w a) (fw_nil w a') hn
end Go.Proofs.Ytdgefdjgpneanac

/- The laws' sizes, copies and comparisons of Turns. -/
import Derived.Test.YtoeiheccmpjclarFlwPut
import Derived.Deep.RegionHeld3
import Derived.Deep.DeepCutAuto
import Derived.OwnWalk
import Derived.LoopTactic
import Derived.Laws.OwnMore
namespace Go.Proofs.Ytoeiheccmpjclar
open Go.ChangeShapes Go.WideShapes Go.ChangeAt Go.RowKit
set_option maxRecDepth 100000
set_option linter.unusedVariables false
set_option linter.unusedSimpArgs false

/-- How many numbers the first k flows have. -/
def sumL (fs : List F8) : Nat → Nat
  | 0 => 0
  | k + 1 => sumL fs k + (match fs[k]? with | some f => f.2.2.length | none => 0)
theorem sumL_next {fs : List F8} {k : Nat} (h : k < fs.length) : sumL fs (k + 1) = sumL fs k + fs[k].2.2.length := by
  show sumL fs k + (match fs[k]? with | some f => f.2.2.length | none => 0) = _
  rw [List.getElem?_eq_getElem h]
theorem sumL_le (fs : List F8) (k : Nat) : ∀ d, sumL fs k ≤ sumL fs (k + d)
  | 0 => Nat.le_refl _
  | d + 1 => by
    have := sumL_le fs k d
    show sumL fs k ≤ sumL fs (k + d) + _
    omega
theorem sumL_mono (fs : List F8) {k m : Nat} (h : k ≤ m) : sumL fs k ≤ sumL fs m := by
  have := sumL_le fs k (m - k)
  rw [show k + (m - k) = m by omega] at this
  exact this
theorem szInt64S_gen (a : Option Addr) (n cap : Nat) (left : Int) (w : World) (hn : (n : Int) ≤ 9223372036854775807) (h0 : 0 ≤ left) (h1 : left ≤ 1048576) :
    Calls Try.prog 26 #[.slice a n cap, .int .i64 left] w fun e w' => e = .returned (.int .i64 (if (n : Int) ≤ left then left - n else -1)) ∧ w' = w := by
  by_cases h : (n : Int) ≤ left
  · have f : (0 : Int) ≤ left - (n : Int) := by omega
    rw [if_pos h]
    go_enter Try.func26, Try.ntmps26
    go_wp2
    go_ret
    exact ⟨rfl, rfl⟩
  · have f : left - (n : Int) < 0 := by omega
    rw [if_neg h]
    go_enter Try.func26, Try.ntmps26
    go_wp2
    go_ret
    exact ⟨rfl, rfl⟩
theorem info_int : (Try.prog.info? 2).map (fun i => (i.zero, i.size, i.bytes)) = some (some (.int .i64 0), 1, 8) := by kernel_rfl
theorem made_int (n j : Nat) (h : j < n * 1) : (madeCells (Value.int .i64 0).cells (n * 1)).toList[j]? = some (.int .i64 0) := by
  have hz : ∀ i : Nat, (#[Value.int .i64 0] : Array Value)[i % 1]! = .int .i64 0 := by
    intro i
    have : i % 1 = 0 := by omega
    rw [this]; rfl
  rw [Array.getElem?_toList]
  unfold madeCells
  rw [Array.getElem?_map, Array.getElem?_eq_getElem (by simpa using h)]
  show some _ = _
  rw [show ((Array.range (n * 1))[j]'(by simpa using h)) = j by simp]
  exact congrArg some (hz j)
theorem made_flow (n j : Nat) (h : j < n * 3) : ∃ z, (madeCells (Value.agg #[.int .i64 0, .int .i64 0, .slice none 0 0]).cells (n * 3)).toList[j]? = some z := by
  rw [Array.getElem?_toList]
  unfold madeCells
  rw [Array.getElem?_map, Array.getElem?_eq_getElem (by simpa using h)]
  exact ⟨_, rfl⟩
set_option maxHeartbeats 1000000 in
theorem toInt64S_any {w : World} {a : Option Addr} (cap : Nat) {xs : List Int} (h : ISmp w.heap.size w a xs) (hn : xs.length ≤ 1048576) :
    Calls Try.prog 31 #[.slice a xs.length cap] w fun e w' => ∃ g, e = .returned (.slice (some ⟨g, 0, none⟩) xs.length xs.length) ∧ w.heap.size ≤ g ∧ g < w'.heap.size ∧ IFill w' g xs.length xs xs.length ∧ Below w.heap.size w w' := by
  obtain ⟨i0, hi, hz0, hz1, hz2⟩ := info_parts info_int
  go_enter Try.func31, Try.ntmps31
  go_wp2_with (first
    | (at_make; refine wpList_make_full _ rfl _ _ 22 rfl w.heap.size 2 i0 _ 1 Try.underlying22 hi hz0 hz1 _ _ _ _ xs.length rfl rfl rfl rfl (by rw [hz2]; omega) (by unfold maxLen; omega) (Nat.le_refl _) ?_; intro w1 own1 gr1))
  have hb1 : Below w.heap.size w w1 := (Below.refl _ _).grown gr1 (Nat.le_refl _) (fun k hk => by cases hk)
  have hg1 : w.heap.size < w1.heap.size := (own1.lt _ rfl).2
  have f1 : IFill w1 w.heap.size xs.length xs 0 := ⟨fun j hj => ⟨⟨0, by
    have hc := own1.cellAt j (by omega)
    rw [hc]
    exact made_int _ j (by omega)⟩, own1.frozenAt j⟩, fun i hi hk => by omega⟩
  go_loopw [4] (fun i wr => ∃ k : Nat, i = .int .i64 k ∧ k ≤ xs.length ∧ IFill wr w.heap.size xs.length xs k ∧ w.heap.size < wr.heap.size ∧ Below w.heap.size w wr) (fun i _ => xs.length - (intOf i).toNat)
  case atStart => exact ⟨0, rfl, by omega, f1, hg1, hb1⟩
  case round =>
    obtain ⟨k, rfl, hk, f, hg, hb⟩ := hrel
    by_cases hlt : k < xs.length
    · obtain ⟨b, off, rfl, hbl, c0⟩ := h.at hb k hlt
      have hlt' : (k : Int) < (xs.length : Int) := by omega
      obtain ⟨⟨z0, e0⟩, u0⟩ := f.any k hlt
      have hp := f.put hlt (Nat.le_refl _)
      obtain ⟨x, hx⟩ : ∃ x, xs[k] = x := ⟨_, rfl⟩
      rw [hx] at c0 hp
      have HP : Hid (IFill (wr.setCell ⟨w.heap.size, k, none⟩ (.int .i64 x)) w.heap.size xs.length xs (k + 1)) := hp
      clear hx hp
      go_wp2
      exact ⟨⟨k + 1, by go_num, by omega, HP.out, by simp; omega, hb.setCell (Nat.le_refl _) _⟩, by simp [intOf]; omega⟩
    · have e : k = xs.length := by omega
      subst e
      go_wp2
      go_ret
      exact ⟨_, rfl, Nat.le_refl _, hg, f, hb⟩
end Go.Proofs.Ytoeiheccmpjclar

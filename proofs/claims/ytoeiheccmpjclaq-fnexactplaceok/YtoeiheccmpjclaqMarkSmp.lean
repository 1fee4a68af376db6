/- The laws' marks: every number of a list of samples is written over, and read again. -/
import Derived.Test.YtoeiheccmpjclaqToSmp
import Derived.Test.YtoeiheccmpjclaqCur
namespace Go.Proofs.Ytoeiheccmpjclaq
open Go.ChangeShapes Go.WideShapes Go.ChangeAt Go.RowKit
set_option maxRecDepth 100000
set_option linter.unusedVariables false

def marks (k : Int) (n : Nat) : List (Int × Int) := (List.range n).map fun (i : Nat) => (k + 2 * (i : Int), k + 2 * (i : Int) + 1)
theorem marks_length (k : Int) (n : Nat) : (marks k n).length = n := by simp [marks]
theorem marks_get (k : Int) (n i : Nat) (h : i < (marks k n).length) : (marks k n)[i] = (k + 2 * (i : Int), k + 2 * (i : Int) + 1) := by simp [marks]
theorem Fill.again {w : World} {g n k : Nat} {xs : List (Int × Int)} (f : Fill w g n xs k) (ys : List (Int × Int)) : Fill w g n ys 0 := ⟨f.any, fun i hi hk => by omega⟩
theorem ret_v {f g : Int} (h : f = g) : Value.int .i64 f = .int .i64 g := by rw [h]
set_option maxHeartbeats 1000000 in
theorem markSampleS_any {w : World} {g n m : Nat} (cap : Nat) {xs : List (Int × Int)} (k : Int) (f : Fill w g n xs m) (hg : g < w.heap.size) (hn : n ≤ 1048576) (k0 : 0 ≤ k) (k1 : k ≤ 1000000000) :
    Calls Try.prog 61 #[.slice (some ⟨g, 0, none⟩) n cap, .int .i64 k] w fun e w' => e = .returned (.int .i64 (k + 2 * n)) ∧ Fill w' g n (marks k n) n ∧ Only g w w' := by
  go_enter Try.func61, Try.ntmps61
  go_wp2
  go_loopw [1, 5] (fun s i wr => ∃ j : Nat, i = .int .i64 j ∧ j ≤ n ∧ s = .int .i64 (k + 2 * (j : Int)) ∧ Fill wr g n (marks k n) j ∧ Only g w wr) (fun _ i _ => n - (intOf i).toNat)
  case atStart => exact ⟨0, rfl, by omega, by simp, f.again _, Only.refl _ _⟩
  case round =>
    obtain ⟨j, rfl, hj, rfl, fr, hO⟩ := hrel
    by_cases hlt : j < n
    · obtain ⟨⟨z0, e0⟩, u0⟩ := fr.any (j * 2) (by omega)
      obtain ⟨⟨z1, e1⟩, u1⟩ := fr.any (j * 2 + 1) (by omega)
      have hlt' : (j : Int) < (n : Int) := by omega
      have hp := fr.put (k := j) (by rw [marks_length]; exact hlt) (by rw [marks_length]; omega)
      rw [marks_get] at hp
      have HP : Hid (Fill ((wr.setCell ⟨g, j * 2, none⟩ (.int .i64 (k + 2 * (j : Int)))).setCell ⟨g, j * 2 + 1, none⟩ (.int .i64 (k + 2 * (j : Int) + 1))) g n (marks k n) (j + 1)) := hp
      clear hp
      go_wp2
      exact ⟨⟨j + 1, by go_num, by omega, ret_v (by omega), HP.out, (hO.setCell rfl _).setCell rfl _⟩, by simp [intOf]; omega⟩
    · have e : j = n := by omega
      subst e
      go_wp2
      go_ret
      exact ⟨rfl, fr, hO⟩
set_option maxHeartbeats 1000000 in
theorem heldSampleS_any {w : World} {g n : Nat} (cap : Nat) (k : Int) (f : Fill w g n (marks k n) n) (hn : n ≤ 1048576) (k0 : 0 ≤ k) (k1 : k ≤ 1000000000) :
    Calls Try.prog 62 #[.slice (some ⟨g, 0, none⟩) n cap, .int .i64 k] w fun e w' => e = .returned (.int .i64 (k + 2 * n)) ∧ w' = w := by
  go_enter Try.func62, Try.ntmps62
  go_wp2
  go_loop [1, 5] (fun s i => ∃ j : Nat, i = .int .i64 j ∧ j ≤ n ∧ s = .int .i64 (k + 2 * (j : Int))) (fun _ i => n - (intOf i).toNat)
  case atStart => exact ⟨0, rfl, by omega, by simp⟩
  case round =>
    obtain ⟨j, rfl, hj, rfl⟩ := hrel
    by_cases hlt : j < n
    · obtain ⟨c0, c1⟩ := f.got j (by rw [marks_length]; exact hlt) hlt
      rw [marks_get] at c0 c1
      simp only at c0 c1
      have hlt' : (j : Int) < (n : Int) := by omega
      go_wp2
      go_round
      case rel => exact ⟨j + 1, by go_num, by omega, ret_v (by omega)⟩
      case measure => first | (simp [intOf]; done) | (simp [intOf]; omega)
    · have e : j = n := by omega
      subst e
      go_wp2
      go_ret
      exact ⟨rfl, rfl⟩
theorem markFilter_any {w : World} {g n m : Nat} (cap : Nat) {xs : List (Int × Int)} (k : Int) (f : Fill w g n xs m) (hg : g < w.heap.size) (hn : n ≤ 1048576) (k0 : 0 ≤ k) (k1 : k ≤ 1000000000) :
    Calls Try.prog 32 #[.agg #[.slice (some ⟨g, 0, none⟩) n cap], .int .i64 k] w fun e w' => e = .returned (.int .i64 (k + 2 * n)) ∧ Fill w' g n (marks k n) n ∧ Only g w w' := by
  go_enter Try.func32, Try.ntmps32
  go_wp2_with (first | (go_at_call 61; refine (markSampleS_any cap k (f.mono (new_below _ _) hg) (by simp; omega) hn k0 k1).mono ?_; rintro e w2 ⟨rfl, f2, hO⟩))
  go_ret
  exact ⟨rfl, f2, (Only.of_below (new_below _ _)).trans hO⟩
theorem heldFilter_any {w : World} {g n : Nat} (cap : Nat) (k : Int) (f : Fill w g n (marks k n) n) (hg : g < w.heap.size) (hn : n ≤ 1048576) (k0 : 0 ≤ k) (k1 : k ≤ 1000000000) :
    Calls Try.prog 33 #[.agg #[.slice (some ⟨g, 0, none⟩) n cap], .int .i64 k] w fun e w' => e = .returned (.int .i64 (k + 2 * n)) ∧ Below w.heap.size w w' := by
  have hpos : ¬ (k + 2 * (n : Int) < 0) := by omega
  go_enter Try.func33, Try.ntmps33
  go_wp2_with (first | (go_at_call 62; refine (heldSampleS_any cap k (f.mono (new_below _ _) hg) hn k0 k1).mono ?_; rintro e w2 ⟨rfl, rfl⟩))
  go_ret
  exact ⟨rfl, new_below _ _⟩
end Go.Proofs.Ytoeiheccmpjclaq

/- What spec's buckets answer: Fill, Take. -/
import Derived.Test.YtohenfogiegkmabSpecBuck
namespace Go.Proofs.Ytohenfogiegkmab
open Go.ChangeShapes Go.WideShapes Go.ChangeAt Go.RowKit
set_option maxRecDepth 100000
set_option linter.unusedVariables false

def fillL (r u l t now : Int) : Int := if now ≤ t then l else min (1000000000 * u) (l + r * (now - t))
def fillT (t now : Int) : Int := if now ≤ t then t else now
theorem md_one {r d : Int} (hr : 0 ≤ r) (hd : 0 ≤ d) : mdOk r d 1 = decide (r * d ≤ 9223372036854775807) ∧ (mdOk r d 1 = true → mdQ r d 1 = r * d) := by
  have e : mdOk r d 1 = decide (r * d ≤ 9223372036854775807) := by
    unfold mdOk
    rw [Int.ediv_one]
    by_cases h : r * d ≤ 9223372036854775807
    · rw [decide_eq_true h, decide_eq_true ⟨hr, hd, by omega, h⟩]
    · rw [decide_eq_false h, decide_eq_false (fun k => h k.2.2.2)]
  refine ⟨e, fun h => ?_⟩
  unfold mdQ
  rw [if_pos h, Int.ediv_one]
/-- Added up and held at the bound. -/
theorem fill_yes {u l P : Int} (hu : 0 ≤ u ∧ u ≤ 1000000000) (hl : 0 ≤ l ∧ l ≤ 1000000000 * u) (h0 : 0 ≤ P) (hP : P ≤ 9223372036854775807) : min (1000000000 * u) (satAdd l P) = min (1000000000 * u) (l + P) := by
  unfold satAdd
  split
  · rw [Int.min_eq_left (by omega), Int.min_eq_left (by omega)]
  · rw [if_neg (by omega)]
theorem fill_no {u l P : Int} (hu : 0 ≤ u ∧ u ≤ 1000000000) (hl : 0 ≤ l ∧ l ≤ 1000000000 * u) (hP : 9223372036854775807 < P) : min (1000000000 * u) (satAdd l (1000000000 * u)) = min (1000000000 * u) (l + P) := by
  unfold satAdd
  rw [if_neg (by omega), if_neg (by omega), Int.min_eq_left (by omega), Int.min_eq_left (by omega)]
theorem fill_bounds {r u l t now : Int} (hu : 0 ≤ u ∧ u ≤ 1000000000) (hl : 0 ≤ l ∧ l ≤ 1000000000 * u) (hr : 0 ≤ r) : 0 ≤ fillL r u l t now ∧ fillL r u l t now ≤ 1000000000 * u := by
  unfold fillL
  split
  · exact hl
  · rename_i h
    have : 0 ≤ r * (now - t) := Int.mul_nonneg hr (by omega)
    exact ⟨by rw [Int.le_min]; omega, Int.min_le_left _ _⟩
set_option maxHeartbeats 2000000 in
theorem l4Fill_any {r u l t now : Int} (w : World) (h : bokB r u l t = true) (hn : timeB now = true) :
    Calls Try.prog 69 #[.agg #[.int .i64 r, .int .i64 u, .int .i64 l, .int .i64 t], .int .i64 now] w fun e w' => e = .returned (.agg #[.int .i64 r, .int .i64 u, .int .i64 (fillL r u l t now), .int .i64 (fillT t now)]) ∧ Below w.heap.size w w' := by
  obtain ⟨nr, nu, nl, nt⟩ := bok_num h
  have nn := tim_num hn
  by_cases hle : now ≤ t
  · have e1 : fillL r u l t now = l := if_pos hle
    have e2 : fillT t now = t := if_pos hle
    rw [e1, e2]
    go_enter Try.func69, Try.ntmps69
    go_wp2
    refine bodyPost_ret (results_one rfl _ _ _ [.int .i64 r, .int .i64 u, .int .i64 l, .int .i64 t] rfl (cells_four (by go_simp) (by go_simp) (by go_simp) (by go_simp)) Try.underlying49 rfl (by kernel_rfl)) rfl ?_
    exact ⟨rfl, by go_grown⟩
  · have e1 : fillL r u l t now = min (1000000000 * u) (l + r * (now - t)) := if_neg hle
    have e2 : fillT t now = now := if_neg hle
    rw [e1, e2]
    have hlt : t < now := by omega
    obtain ⟨m1, m2⟩ := md_one nr.1 (show 0 ≤ now - t by omega)
    have hP0 : 0 ≤ r * (now - t) := Int.mul_nonneg nr.1 (by omega)
    clear e1 e2 hle
    by_cases hP : r * (now - t) ≤ 9223372036854775807
    · have m1' : mdOk r (now - t) 1 = true := m1.trans (decide_eq_true hP)
      have m2' := m2 m1'
      rw [← fill_yes nu nl hP0 hP]
      have M1 : Hid (mdOk r (now - t) 1 = true) := m1'
      have M2 : Hid (mdQ r (now - t) 1 = r * (now - t)) := m2'
      clear m1 m2 m1' m2'
      generalize r * (now - t) = P at *
      go_enter Try.func69, Try.ntmps69
      go_wp2_with (first
        | (go_at_call 85; refine (specMulDiv_any _ _ _ _ (by omega) (by omega) (by omega)).mono ?_; rintro e w2 ⟨rfl, rfl⟩; rw [M1.out, M2.out])
        | (go_at_call 86; refine (specAdd_any _ _ _ (by omega) (by omega) (by omega) (by omega)).mono ?_; rintro e w2 ⟨rfl, rfl⟩)
        | (go_at_call 75; refine (min_any _ _ _).mono ?_; rintro e w2 ⟨rfl, rfl⟩))
      refine bodyPost_ret (results_one rfl _ _ _ [.int .i64 r, .int .i64 u, .int .i64 (min (1000000000 * u) (satAdd l P)), .int .i64 now] rfl (cells_four (by go_simp) (by go_simp) (by go_simp) (by go_simp)) Try.underlying49 rfl (by kernel_rfl)) rfl ?_
      exact ⟨rfl, by go_grown⟩
    · have m1' : mdOk r (now - t) 1 = false := m1.trans (decide_eq_false hP)
      rw [← fill_no nu nl (by omega)]
      have M1 : Hid (mdOk r (now - t) 1 = false) := m1'
      clear m1 m2 m1'
      go_enter Try.func69, Try.ntmps69
      go_wp2_with (first
        | (go_at_call 85; refine (specMulDiv_any _ _ _ _ (by omega) (by omega) (by omega)).mono ?_; rintro e w2 ⟨rfl, rfl⟩; rw [M1.out])
        | (go_at_call 86; refine (specAdd_any _ _ _ (by omega) (by omega) (by omega) (by omega)).mono ?_; rintro e w2 ⟨rfl, rfl⟩)
        | (go_at_call 75; refine (min_any _ _ _).mono ?_; rintro e w2 ⟨rfl, rfl⟩))
      refine bodyPost_ret (results_one rfl _ _ _ [.int .i64 r, .int .i64 u, .int .i64 (min (1000000000 * u) (satAdd l (1000000000 * u))), .int .i64 now] rfl (cells_four (by go_simp) (by go_simp) (by go_simp) (by go_simp)) Try.underlying49 rfl (by kernel_rfl)) rfl ?_
      exact ⟨rfl, by go_grown⟩
end Go.Proofs.Ytohenfogiegkmab

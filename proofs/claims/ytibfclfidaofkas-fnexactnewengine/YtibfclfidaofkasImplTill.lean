/- impl's tills: a bucket by a class, what is paid, a full one. -/
import Derived.Test.YtibfclfidaofkasImplRec
import Derived.Test.YtibfclfidaofkasGrpK
import Derived.Test.YtibfclfidaofkasGrpM
namespace Go.Proofs.Ytibfclfidaofkas
open Go.ChangeShapes Go.WideShapes Go.ChangeAt Go.RowKit
set_option maxRecDepth 100000
set_option linter.unusedVariables false
set_option linter.unusedSimpArgs false

def isByB (r u l t rr uu aa : Int) : Bool := ((bokB r u l t && decide (r = rr)) && decide (u = uu)) && decide (t = aa)
theorem iBok_is {r u l t : Int} {f : Bool} (h : bokB r u l t = f) (w : World) : Calls Try.prog 121 #[.agg #[.int .i64 r, .int .i64 u, .int .i64 l, .int .i64 t]] w fun e w' => e = .returned (.bool f) ∧ Below w.heap.size w w' := by subst h; exact implBucketOk_any r u l t w
set_option maxHeartbeats 2000000 in
theorem isBy_any (r u l t rr uu aa : Int) (w : World) :
    Calls Try.prog 98 #[.agg #[.int .i64 r, .int .i64 u, .int .i64 l, .int .i64 t], .int .i64 rr, .int .i64 uu, .int .i64 aa] w fun e w' => e = .returned (.bool (isByB r u l t rr uu aa)) ∧ Below w.heap.size w w' := by
  unfold isByB
  have nb : Below w.heap.size w (w.alloc (.cells #[.int .i64 r, .int .i64 u, .int .i64 l, .int .i64 t] 126)) := new_below _ _
  have C0 : Hid (Cells (w.alloc (.cells #[.int .i64 r, .int .i64 u, .int .i64 l, .int .i64 t] 126)) [(w.heap.size, 0, .int .i64 r), (w.heap.size, 1, .int .i64 u), (w.heap.size, 3, .int .i64 t)]) := ⟨⟨by simp, by go_simp⟩, ⟨by simp, by go_simp⟩, ⟨by simp, by go_simp⟩, trivial⟩
  cases h0 : bokB r u l t
  · go_enter Try.func98, Try.ntmps98
    go_wp2_with (first | (go_at_call 121; refine (iBok_is h0 _).mono ?_; rintro e w2 ⟨rfl, hb2⟩; have ⟨⟨z0, k0⟩, ⟨z1, k1⟩, ⟨z2, k2⟩, _⟩ := Cells.next hb2 C0.out))
    go_ret
    exact ⟨rfl, nb.trans (hb2.mono (by simp))⟩
  by_cases h1 : r = rr
  rotate_left
  · have h1' : (r == rr) = false := by simp [h1]
    rw [decide_eq_false h1]
    go_enter Try.func98, Try.ntmps98
    go_wp2_with (first | (go_at_call 121; refine (iBok_is h0 _).mono ?_; rintro e w2 ⟨rfl, hb2⟩; have ⟨⟨z0, k0⟩, ⟨z1, k1⟩, ⟨z2, k2⟩, _⟩ := Cells.next hb2 C0.out))
    go_ret
    exact ⟨rfl, nb.trans (hb2.mono (by simp))⟩
  subst h1
  by_cases h2 : u = uu
  rotate_left
  · have h2' : (u == uu) = false := by simp [h2]
    rw [decide_eq_false h2, decide_eq_true rfl]
    go_enter Try.func98, Try.ntmps98
    go_wp2_with (first | (go_at_call 121; refine (iBok_is h0 _).mono ?_; rintro e w2 ⟨rfl, hb2⟩; have ⟨⟨z0, k0⟩, ⟨z1, k1⟩, ⟨z2, k2⟩, _⟩ := Cells.next hb2 C0.out))
    go_ret
    exact ⟨rfl, nb.trans (hb2.mono (by simp))⟩
  subst h2
  rw [decide_eq_true (rfl : r = r), decide_eq_true (rfl : u = u)]
  by_cases h3 : t = aa
  · subst h3
    rw [decide_eq_true rfl]
    go_enter Try.func98, Try.ntmps98
    go_wp2_with (first | (go_at_call 121; refine (iBok_is h0 _).mono ?_; rintro e w2 ⟨rfl, hb2⟩; have ⟨⟨z0, k0⟩, ⟨z1, k1⟩, ⟨z2, k2⟩, _⟩ := Cells.next hb2 C0.out))
    go_ret
    exact ⟨rfl, nb.trans (hb2.mono (by simp))⟩
  · have h3' : (t == aa) = false := by simp [h3]
    rw [decide_eq_false h3]
    go_enter Try.func98, Try.ntmps98
    go_wp2_with (first | (go_at_call 121; refine (iBok_is h0 _).mono ?_; rintro e w2 ⟨rfl, hb2⟩; have ⟨⟨z0, k0⟩, ⟨z1, k1⟩, ⟨z2, k2⟩, _⟩ := Cells.next hb2 C0.out))
    go_ret
    exact ⟨rfl, nb.trans (hb2.mono (by simp))⟩
theorem isBy_is {r u l t rr uu aa : Int} {f : Bool} (h : isByB r u l t rr uu aa = f) (w : World) :
    Calls Try.prog 98 #[.agg #[.int .i64 r, .int .i64 u, .int .i64 l, .int .i64 t], .int .i64 rr, .int .i64 uu, .int .i64 aa] w fun e w' => e = .returned (.bool f) ∧ Below w.heap.size w w' := by subst h; exact isBy_any r u l t rr uu aa w
theorem ret4 (w : World) : Kept w [(w.heap.size, 0, .int .i64 0), (w.heap.size, 1, .int .i64 0), (w.heap.size, 2, .int .i64 0), (w.heap.size, 3, .int .i64 0)] [w.heap.size] (w.alloc (.cells #[.int .i64 0, .int .i64 0, .int .i64 0, .int .i64 0] 57)) :=
  ⟨⟨⟨by simp, by go_simp⟩, ⟨by simp, by go_simp⟩, ⟨by simp, by go_simp⟩, ⟨by simp, by go_simp⟩, trivial⟩, fun b hb => (by rw [show b = w.heap.size by simpa using hb]; exact ⟨by simp, fun o => by go_simp⟩), new_below _ _⟩
set_option maxHeartbeats 1000000 in
theorem fullTill_yes {r u t : Int} (w : World) (h : fullOk r u t = true) :
    Calls Try.prog 114 #[.int .i64 r, .int .i64 u, .int .i64 t] w fun e w' => e = .returned (.agg #[.int .i64 r, .int .i64 u, .int .i64 (1000000000 * u), .int .i64 t]) ∧ Below w.heap.size w w' := by
  have hf := implFull_any r u t
  rw [h] at hf
  have e : fullOf r u t = (r, u, 1000000000 * u, t) := by unfold fullOf; rw [if_pos h]
  rw [e] at hf
  clear e h
  have C0 : Hid (Kept w [(w.heap.size, 0, .int .i64 0), (w.heap.size, 1, .int .i64 0), (w.heap.size, 2, .int .i64 0), (w.heap.size, 3, .int .i64 0)] [w.heap.size] (w.alloc (.cells #[.int .i64 0, .int .i64 0, .int .i64 0, .int .i64 0] 57))) := ret4 w
  go_enter Try.func114, Try.ntmps114
  go_wp2_with (first | (go_at_call 125; refine (hf _).mono ?_; rintro e w2 ⟨rfl, hb2⟩; have K := (C0.out.next hb2).next (new_below w2 (.cells #[.int .i64 r, .int .i64 u, .int .i64 (1000000000 * u), .int .i64 t] 57)); have ⟨⟨z0, k0⟩, ⟨z1, k1⟩, ⟨z2, k2⟩, ⟨z3, k3⟩, _⟩ := K.cells; have fr := (K.free w.heap.size (by simp)).2; have hbw := K.hb; clear K) | (go_at_call 96; refine (insist_yes _).mono ?_; rintro e w3 ⟨rfl, rfl⟩))
  refine bodyPost_ret (results_one rfl _ _ _ [.int .i64 r, .int .i64 u, .int .i64 (1000000000 * u), .int .i64 t] rfl (cells_set4 (u0 := .int .i64 0) (u1 := .int .i64 0) (u2 := .int .i64 0) (u3 := .int .i64 0) _ _ _ _ ?_ ?_ ?_ ?_) Try.underlying57 rfl (by kernel_rfl)) rfl ?_
  · exact k0
  · exact k1
  · exact k2
  · exact k3
  exact ⟨rfl, (((hbw.setCell (by simp) _).setCell (by simp) _).setCell (by simp) _).setCell (by simp) _⟩
theorem fullTill_no {r u t : Int} (w : World) (h : fullOk r u t = false) :
    Calls Try.prog 114 #[.int .i64 r, .int .i64 u, .int .i64 t] w fun e w' => e = gaveUp ∧ Below w.heap.size w w' := by
  have hf := implFull_any r u t
  rw [h] at hf
  have nb : Below w.heap.size w (w.alloc (.cells #[.int .i64 0, .int .i64 0, .int .i64 0, .int .i64 0] 57)) := new_below _ _
  go_enter Try.func114, Try.ntmps114
  go_wp2_with (first | (go_at_call 125; refine (hf _).mono ?_; rintro e w2 ⟨rfl, hb2⟩; have hbw := below_two nb hb2) | (go_at_call 96; refine (insist_no _).mono ?_; rintro e w3 ⟨rfl, rfl⟩))
  exact ⟨rfl, rfl, below_two hbw (new_below _ _)⟩
end Go.Proofs.Ytibfclfidaofkas

/- impl's tills: a bucket by a class, what is paid, a full one. -/
import Derived.Test.YtmophpbfaonfmacImplRec
import Derived.Test.YtmophpbfaonfmacGrpK
import Derived.Test.YtmophpbfaonfmacGrpM
namespace Go.Proofs.Ytmophpbfaonfmac
open Go.ChangeShapes Go.WideShapes Go.ChangeAt Go.RowKit
set_option maxRecDepth 100000
set_option linter.unusedVariables false
set_option linter.unusedSimpArgs false

def isByB (r u l t rr uu aa : Int) : Bool := ((bokB r u l t && decide (r = rr)) && decide (u = uu)) && decide (t = aa)
theorem iBok_is {r u l t : Int} {f : Bool} (h : bokB r u l t = f) (w : World) : Calls Try.prog 17 #[.agg #[.int .i64 r, .int .i64 u, .int .i64 l, .int .i64 t]] w fun e w' => e = .returned (.bool f) ∧ Below w.heap.size w w' := by subst h; exact implBucketOk_any r u l t w
set_option maxHeartbeats 2000000 in
theorem isBy_any (r u l t rr uu aa : Int) (w : World) :
    Calls Try.prog 131 #[.agg #[.int .i64 r, .int .i64 u, .int .i64 l, .int .i64 t], .int .i64 rr, .int .i64 uu, .int .i64 aa] w fun e w' => e = .returned (.bool (isByB r u l t rr uu aa)) ∧ Below w.heap.size w w' := by
  unfold isByB
  have nb : Below w.heap.size w (w.alloc (.cells #[.int .i64 r, .int .i64 u, .int .i64 l, .int .i64 t] 132)) := new_below _ _
  have C0 : Hid (Cells (w.alloc (.cells #[.int .i64 r, .int .i64 u, .int .i64 l, .int .i64 t] 132)) [(w.heap.size, 0, .int .i64 r), (w.heap.size, 1, .int .i64 u), (w.heap.size, 3, .int .i64 t)]) := ⟨⟨by simp, by go_simp⟩, ⟨by simp, by go_simp⟩, ⟨by simp, by go_simp⟩, trivial⟩
  cases h0 : bokB r u l t
  · go_enter Try.func131, Try.ntmps131
    go_wp2_with (first | (go_at_call 17; refine (iBok_is h0 _).mono ?_; rintro e w2 ⟨rfl, hb2⟩; have ⟨⟨z0, k0⟩, ⟨z1, k1⟩, ⟨z2, k2⟩, _⟩ := Cells.next hb2 C0.out))
    go_ret
    exact ⟨rfl, nb.trans (hb2.mono (by simp))⟩
  by_cases h1 : r = rr
  rotate_left
  · have h1' : (r == rr) = false := by simp [h1]
    rw [decide_eq_false h1]
    go_enter Try.func131, Try.ntmps131
    go_wp2_with (first | (go_at_call 17; refine (iBok_is h0 _).mono ?_; rintro e w2 ⟨rfl, hb2⟩; have ⟨⟨z0, k0⟩, ⟨z1, k1⟩, ⟨z2, k2⟩, _⟩ := Cells.next hb2 C0.out))
    go_ret
    exact ⟨rfl, nb.trans (hb2.mono (by simp))⟩
  subst h1
  by_cases h2 : u = uu
  rotate_left
  · have h2' : (u == uu) = false := by simp [h2]
    rw [decide_eq_false h2, decide_eq_true rfl]
    go_enter Try.func131, Try.ntmps131
    go_wp2_with (first | (go_at_call 17; refine (iBok_is h0 _).mono ?_; rintro e w2 ⟨rfl, hb2⟩; have ⟨⟨z0, k0⟩, ⟨z1, k1⟩, ⟨z2, k2⟩, _⟩ := Cells.next hb2 C0.out))
    go_ret
    exact ⟨rfl, nb.trans (hb2.mono (by simp))⟩
  subst h2
  rw [decide_eq_true (rfl : r = r), decide_eq_true (rfl : u = u)]
  by_cases h3 : t = aa
  · subst h3
    rw [decide_eq_true rfl]
    go_enter Try.func131, Try.ntmps131
    go_wp2_with (first | (go_at_call 17; refine (iBok_is h0 _).mono ?_; rintro e w2 ⟨rfl, hb2⟩; have ⟨⟨z0, k0⟩, ⟨z1, k1⟩, ⟨z2, k2⟩, _⟩ := Cells.next hb2 C0.out))
    go_ret
    exact ⟨rfl, nb.trans (hb2.mono (by simp))⟩
  · have h3' : (t == aa) = false := by simp [h3]
    rw [decide_eq_false h3]
    go_enter Try.func131, Try.ntmps131
    go_wp2_with (first | (go_at_call 17; refine (iBok_is h0 _).mono ?_; rintro e w2 ⟨rfl, hb2⟩; have ⟨⟨z0, k0⟩, ⟨z1, k1⟩, ⟨z2, k2⟩, _⟩ := Cells.next hb2 C0.out))
    go_ret
    exact ⟨rfl, nb.trans (hb2.mono (by simp))⟩
theorem isBy_is {r u l t rr uu aa : Int} {f : Bool} (h : isByB r u l t rr uu aa = f) (w : World) :
    Calls Try.prog 131 #[.agg #[.int .i64 r, .int .i64 u, .int .i64 l, .int .i64 t], .int .i64 rr, .int .i64 uu, .int .i64 aa] w fun e w' => e = .returned (.bool f) ∧ Below w.heap.size w w' := by subst h; exact isBy_any r u l t rr uu aa w
theorem paid_any {r u l t n : Int} (w : World) (hl : 0 ≤ l ∧ l ≤ 1000000000000000000) (hn : 1 ≤ n ∧ n ≤ 1500) :
    Calls Try.prog 145 #[.agg #[.int .i64 r, .int .i64 u, .int .i64 l, .int .i64 t], .int .i64 n] w fun e w' => e = .returned (.agg #[.int .i64 r, .int .i64 u, .int .i64 (max 0 (l - 1000000000 * n)), .int .i64 t]) ∧ Below w.heap.size w w' := by
  have e0 : IntKind.i64.wrap (n * 1000000000) = n * 1000000000 := by rw [IntKind.wrap_i64]; omega
  have nb : Below w.heap.size w ((w.alloc (.cells #[.int .i64 r, .int .i64 u, .int .i64 l, .int .i64 t] 132)).alloc (.cells #[.int .i64 0, .int .i64 0, .int .i64 0, .int .i64 0] 25)) := by go_grown
  rcases Int.lt_or_le (n * 1000000000) l with h | h
  · have e1 : IntKind.i64.wrap (l - n * 1000000000) = l - n * 1000000000 := by rw [IntKind.wrap_i64]; omega
    have e2 : max 0 (l - 1000000000 * n) = l - n * 1000000000 := by omega
    rw [e2]
    go_enter Try.func145, Try.ntmps145
    go_wp2
    refine bodyPost_ret (results_one rfl _ _ _ [.int .i64 r, .int .i64 u, .int .i64 (l - n * 1000000000), .int .i64 t] rfl (cells_four (by go_simp) (by go_simp) (by go_simp) (by go_simp)) Try.underlying25 rfl (by kernel_rfl)) rfl ?_
    exact ⟨rfl, by go_grown⟩
  · have e2 : max 0 (l - 1000000000 * n) = 0 := by omega
    have e1 : IntKind.i64.wrap (l - l) = 0 := by rw [Int.sub_self]; rfl
    have h' : ¬ (n * 1000000000 < l) := by omega
    rw [e2]
    go_enter Try.func145, Try.ntmps145
    go_wp2
    refine bodyPost_ret (results_one rfl _ _ _ [.int .i64 r, .int .i64 u, .int .i64 (0), .int .i64 t] rfl (cells_four (by go_simp) (by go_simp) (by go_simp) (by go_simp)) Try.underlying25 rfl (by kernel_rfl)) rfl ?_
    exact ⟨rfl, by go_grown⟩
theorem ret4 (w : World) : Kept w [(w.heap.size, 0, .int .i64 0), (w.heap.size, 1, .int .i64 0), (w.heap.size, 2, .int .i64 0), (w.heap.size, 3, .int .i64 0)] [w.heap.size] (w.alloc (.cells #[.int .i64 0, .int .i64 0, .int .i64 0, .int .i64 0] 25)) :=
  ⟨⟨⟨by simp, by go_simp⟩, ⟨by simp, by go_simp⟩, ⟨by simp, by go_simp⟩, ⟨by simp, by go_simp⟩, trivial⟩, fun b hb => (by rw [show b = w.heap.size by simpa using hb]; exact ⟨by simp, fun o => by go_simp⟩), new_below _ _⟩
end Go.Proofs.Ytmophpbfaonfmac

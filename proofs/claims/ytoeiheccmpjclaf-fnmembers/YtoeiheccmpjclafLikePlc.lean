/- likePlace at Places that are alike, and at unlike windows; what is claimed and freed. -/
import Derived.Test.YtoeiheccmpjclafLikeI
import Derived.Test.YtoeiheccmpjclafPlcBoth
namespace Go.Proofs.Ytoeiheccmpjclaf
open Go.ChangeShapes Go.WideShapes Go.ChangeAt Go.RowKit
set_option maxRecDepth 100000
set_option linter.unusedVariables false
set_option linter.unusedSimpArgs false

theorem iv_len {w : World} {lo : Nat} {a : Option Addr} {n c : Nat} {xs : List Int} (h : IV w lo (.slice a n c) xs) : n = xs.length ∧ xs.length ≤ c := by
  rcases h with ⟨g, c', e, _, _, _, hc⟩ | ⟨e, hy⟩
  · injection e with _ e2 e3
    subst e2 e3
    exact ⟨rfl, hc⟩
  · injection e with _ e2 e3
    subst e2 e3 hy
    exact ⟨rfl, Nat.le_refl _⟩
theorem iv_smp {w : World} {lo : Nat} {a : Option Addr} {n c : Nat} {xs : List Int} (h : IV w lo (.slice a n c) xs) : ISmp w.heap.size w a xs := by
  obtain ⟨a', c', e, hs⟩ := h.smp
  injection e with e1 _ _
  subst e1
  exact hs
set_option maxHeartbeats 4000000 in
theorem likePlace_same {wd fl : Int} {w : World} {lo lo' : Nat} {a a' : Option Addr} {n n' c c' : Nat} {ys : List Int} (ha : IV w lo (.slice a n c) ys) (hb : IV w lo' (.slice a' n' c') ys) (hn : ys.length ≤ 1048576) : Calls Try.prog 18 #[.agg #[.int .i64 wd, .int .i64 fl, .slice a n c], .agg #[.int .i64 wd, .int .i64 fl, .slice a' n' c']] w fun e w' => e = .returned (.bool true) ∧ Below w.heap.size w w' := by
  have hd : decide (ys = ys) = true := decide_eq_true rfl
  go_enter Try.func18, Try.ntmps18
  go_wp2_with (first
    | (go_at_call 53; refine (likeI_any (ha.next (by go_grown)) (hb.next (by go_grown)) (by omega)).mono ?_; rintro e w2 ⟨rfl, hb2⟩; rw [hd]; have hbw : Below w.heap.size w w2 := below_two (by go_grown) hb2; have kc := below_cells4 hb2; have zl := hb2.size; (try simp at zl)))
  go_ret
  exact ⟨rfl, hbw⟩
set_option maxHeartbeats 4000000 in
theorem likePlace_not {wd fl wd' fl' : Int} {a a' : Option Addr} {n n' c c' : Nat} (w : World) (h : ¬ wd = wd') : Calls Try.prog 18 #[.agg #[.int .i64 wd, .int .i64 fl, .slice a n c], .agg #[.int .i64 wd', .int .i64 fl', .slice a' n' c']] w fun e w' => e = .returned (.bool false) ∧ Below w.heap.size w w' := by
  have h' : (wd == wd') = false := beq_eq_false_iff_ne.2 h
  go_enter Try.func18, Try.ntmps18
  go_wp2
  go_ret
  exact ⟨rfl, by go_grown⟩
theorem w10_of {n : Int} (h : 0 ≤ n ∧ n ≤ 1000000000) : w10B n = true := by
  unfold w10B
  simp [h.1, h.2]
theorem open_of {n : Int} (h : 3000 ≤ n ∧ n ≤ 1000000000) : openB n = true := by
  unfold openB
  simp [h.1, h.2]
theorem claims2 (wd fl n : Int) (xs : List Int) : ∃ (ys : List Int) (zd zf : Int) (zb : Bool), ys.length ≤ 1048576 ∧ roomB wd fl n xs = zb ∧ (zb = true → ys = xs ∧ zd = wd ∧ zf = fl + n) ∧ (zb = false → ys = [] ∧ zd = 0 ∧ zf = 0) ∧
    (∀ (w : World) (a : Option Addr) (cap : Nat), ISmp w.heap.size w a xs → Calls Try.prog 26 #[.agg #[.int .i64 wd, .int .i64 fl, .slice a xs.length cap], .int .i64 n] w (AnsPT w ys zd zf zb)) ∧
    (∀ (w : World) (a : Option Addr) (cap : Nat), ISmp w.heap.size w a xs → Calls Try.prog 25 #[.agg #[.int .i64 wd, .int .i64 fl, .slice a xs.length cap], .int .i64 n] w (AnsPT w ys zd zf zb)) := by
  cases hr : roomB wd fl n xs
  · exact ⟨[], 0, 0, false, by decide, rfl, fun e => (by cases e), fun _ => ⟨rfl, rfl, rfl⟩, fun w a cap smp => (specClaim_no cap hr smp).mono fun e w' k => ansPT_zero k, fun w a cap smp => (implClaim_no cap hr smp).mono fun e w' k => ansPT_zero k⟩
  · have hl := (pl_num (room_num hr).1).2.2
    exact ⟨xs, wd, fl + n, true, by omega, rfl, fun _ => ⟨rfl, rfl, rfl⟩, fun e => (by cases e), fun w a cap smp => specClaim_yes cap hr smp, fun w a cap smp => implClaim_yes cap hr smp⟩
def FreeOk (wd fl n : Int) (xs : List Int) : Prop := plB wd fl xs = true ∧ inQ 1 n 1000000000 = true
theorem frees2 (wd fl n : Int) (lost : Bool) (xs : List Int) : ∃ (ys : List Int) (zd zf : Int), ys.length ≤ 1048576 ∧ (FreeOk wd fl n xs → ys = xs ∧ zd = freeW wd n lost ∧ zf = max 0 (fl - n)) ∧ (¬ FreeOk wd fl n xs → ys = [] ∧ zd = 0 ∧ zf = 0) ∧
    (∀ (w : World) (a : Option Addr) (cap : Nat), ISmp w.heap.size w a xs → Calls Try.prog 30 #[.agg #[.int .i64 wd, .int .i64 fl, .slice a xs.length cap], .int .i64 n, .bool lost] w (AnsP w ys zd zf)) ∧
    (∀ (w : World) (a : Option Addr) (cap : Nat), ISmp w.heap.size w a xs → Calls Try.prog 29 #[.agg #[.int .i64 wd, .int .i64 fl, .slice a xs.length cap], .int .i64 n, .bool lost] w (AnsP w ys zd zf)) := by
  cases hp : plB wd fl xs
  · exact ⟨[], 0, 0, by decide, fun h => (by have k := h.1; rw [hp] at k; cases k), fun _ => ⟨rfl, rfl, rfl⟩, fun w a cap smp => (specFree_no0 cap hp smp).mono fun e w' k => ansP_zero k, fun w a cap smp => (implFree_no0 cap hp smp).mono fun e w' k => ansP_zero k⟩
  cases hn : inQ 1 n 1000000000
  · exact ⟨[], 0, 0, by decide, fun h => (by have k := h.2; rw [hn] at k; cases k), fun _ => ⟨rfl, rfl, rfl⟩, fun w a cap smp => (specFree_no1 cap hp hn smp).mono fun e w' k => ansP_zero k, fun w a cap smp => (implFree_no1 cap hp hn smp).mono fun e w' k => ansP_zero k⟩
  have hl := (pl_num hp).2.2
  exact ⟨xs, _, _, by omega, fun _ => ⟨rfl, rfl, rfl⟩, fun k => absurd ⟨hp, hn⟩ k, fun w a cap smp => specFree_yes cap hp hn smp, fun w a cap smp => implFree_yes cap hp hn smp⟩
theorem free_ok {wd fl n : Int} {lost : Bool} {xs : List Int} (h : FreeOk wd fl n xs) : plB (freeW wd n lost) (max 0 (fl - n)) xs = true ∧ ¬ (freeW wd n lost = 0) ∧ ¬ (fl < max 0 (fl - n)) ∧ (lost = false → ¬ (freeW wd n lost < wd)) ∧ (lost = true → ¬ (wd < freeW wd n lost)) := by
  obtain ⟨hp, hn⟩ := h
  obtain ⟨a, b, c, d⟩ := pl_yes hp
  obtain ⟨h1, h2, h3⟩ := pl_num hp
  obtain ⟨n1, n2⟩ := inQ_num hn
  have dv : 0 ≤ n * 1500 / wd := Int.ediv_nonneg (by omega) (by omega)
  have hw : 3000 ≤ freeW wd n lost ∧ freeW wd n lost ≤ 1000000000 ∧ (lost = false → wd ≤ freeW wd n lost) ∧ (lost = true → freeW wd n lost ≤ wd) := by
    unfold freeW
    cases lost
    · rw [if_neg (by decide)]
      exact ⟨by omega, by omega, fun _ => by omega, fun e => (by cases e)⟩
    · rw [if_pos rfl]
      exact ⟨by omega, by omega, fun e => (by cases e), fun _ => by omega⟩
  exact ⟨pl_true ⟨open_of ⟨hw.1, hw.2.1⟩, w10_of (by omega), c, d⟩, by omega, by omega, fun e => by have := hw.2.2.1 e; omega, fun e => by have := hw.2.2.2 e; omega⟩
theorem claim_free {wd fl n : Int} {xs : List Int} (h : roomB wd fl n xs = true) : FreeOk wd (fl + n) n xs ∧ max 0 (fl + n - n) = fl ∧ fl + n ≤ wd ∧ wd ≤ freeW wd n false := by
  obtain ⟨hp, hn, hle⟩ := room_num h
  obtain ⟨a, b, c, d⟩ := pl_yes hp
  obtain ⟨h1, h2, h3⟩ := pl_num hp
  obtain ⟨n1, n2⟩ := s10_num hn
  have hf : FreeOk wd (fl + n) n xs := ⟨pl_true ⟨a, w10_of (by omega), c, d⟩, by unfold inQ; simp; omega⟩
  have k := (free_ok (lost := false) hf).2.2.2.1 rfl
  exact ⟨hf, by omega, hle, by omega⟩
end Go.Proofs.Ytoeiheccmpjclaf

/- What impl's PlaceOk, Room and Share answer, and a Place with a list of its own. -/
import Derived.Test.YtibfclfidaofkasGrpAB
import Derived.Test.YtibfclfidaofkasGrpC
import Derived.Laws.CopyOwn
import Derived.Laws.OwnMore
import Derived.Shelf.Abstract
namespace Go.Proofs.Ytibfclfidaofkas
open Go.ChangeShapes Go.WideShapes Go.ChangeAt Go.RowKit
set_option maxRecDepth 100000
set_option linter.unusedVariables false
set_option linter.unusedSimpArgs false

theorem iQ_is {lo x hi : Int} {f : Bool} (h : inQ lo x hi = f) (w : World) : Calls Try.prog 30 #[.int .i64 x, .int .i64 lo, .int .i64 hi] w fun e w' => e = .returned (.bool f) ∧ w' = w := by subst h; exact iwithin_any lo x hi w
theorem iId_is {x : Int} {f : Bool} (h : inQ 0 x 1000000 = f) (w : World) : Calls Try.prog 67 #[.int .i64 x] w fun e w' => e = .returned (.bool f) ∧ w' = w := by
  go_enter Try.func67, Try.ntmps67
  go_wp2_with (first
    | (go_at_call 30; refine (iQ_is h _).mono ?_; rintro e w2 ⟨rfl, rfl⟩))
  go_ret
  exact ⟨rfl, rfl⟩
open Classical in
noncomputable def risB (xs : List Int) : Bool := decide (MemTo xs xs.length)
open Classical in
theorem ris_true {xs : List Int} (h : MemTo xs xs.length) : risB xs = true := by
  unfold risB
  exact decide_eq_true h
open Classical in
theorem ris_false {xs : List Int} (h : ¬ MemTo xs xs.length) : risB xs = false := by
  unfold risB
  exact decide_eq_false h
open Classical in
theorem ris_yes {xs : List Int} (h : risB xs = true) : MemTo xs xs.length := by
  unfold risB at h
  exact of_decide_eq_true h
open Classical in
theorem ris_no {xs : List Int} (h : risB xs = false) : ¬ MemTo xs xs.length := by
  unfold risB at h
  exact of_decide_eq_false h
set_option maxHeartbeats 4000000 in
theorem rising_any {w : World} {a : Option Addr} (cap : Nat) {xs : List Int} (hl : xs.length ≤ 50) (smp : ISmp w.heap.size w a xs) : Calls Try.prog 31 #[.slice a xs.length cap] w fun e w' => e = .returned (.bool (risB xs)) ∧ w' = w := by
  obtain ⟨f, hf⟩ : ∃ f, risB xs = f := ⟨_, rfl⟩
  rw [hf]
  go_enter Try.func31, Try.ntmps31
  go_wp2
  go_loop [7] (fun i => ∃ (k : Nat), i = .int .i64 k ∧ k ≤ xs.length ∧ MemTo xs k) (fun i => xs.length - (intOf i).toNat)
  case atStart => exact ⟨0, rfl, by omega, MemTo.zero xs⟩
  case round =>
    obtain ⟨k, rfl, hk, hM⟩ := hrel
    by_cases hlt : k < xs.length
    · have hlt' : (k : Int) < (xs.length : Int) := by omega
      have hk0 : (0 : Int) ≤ (k : Int) := by omega
      cases h3 : inQ 0 xs[k] 1000000
      · obtain rfl : f = false := by
          rw [← hf]
          refine ris_false (fun h => ?_)
          have := (h k hlt hlt).1
          unfold inQ at h3
          simp [this.1, this.2] at h3
        obtain ⟨b, off, rfl, hb, c0⟩ := smp k hlt
        obtain ⟨y, hy⟩ : ∃ y, xs[k] = y := ⟨_, rfl⟩
        rw [hy] at c0 h3
        clear hy hf
        go_wp2_with (first
          | (go_at_call 67; refine (iId_is h3 _).mono ?_; rintro e w2 ⟨rfl, rfl⟩))
        go_ret
        exact ⟨rfl, rfl⟩
      have h3n : 0 ≤ xs[k] ∧ xs[k] ≤ 1000000 := by
        unfold inQ at h3
        simp only [Bool.and_eq_true, decide_eq_true_eq] at h3
        exact h3
      by_cases hz : k = 0
      · subst hz
        have hN : MemTo xs 1 := hM.next hlt h3n (fun j hj e => by omega)
        obtain ⟨b, off, rfl, hb, c0⟩ := smp 0 hlt
        have hlt0 : (0 : Int) < (xs.length : Int) := by omega
        obtain ⟨y, hy⟩ : ∃ y, xs[0] = y := ⟨_, rfl⟩
        rw [hy] at c0 h3
        rw [Nat.add_zero] at c0
        clear hy h3n
        go_wp2_with (first
          | (go_at_call 67; refine (iId_is h3 _).mono ?_; rintro e w2 ⟨rfl, rfl⟩))
        go_round
        case rel => exact ⟨1, by go_num, by omega, hN⟩
        case measure => first | (simp [intOf]; done) | (simp [intOf]; omega)
      obtain ⟨l, rfl⟩ : ∃ l, k = l + 1 := ⟨k - 1, by omega⟩
      have hl1 : IntKind.i64.wrap ((l : Int) + 1 - 1) = (l : Int) := by rw [IntKind.wrap_i64]; omega
      have hl2 : IntKind.i64.wrap (((l + 1 : Nat) : Int) - 1) = (l : Int) := by rw [IntKind.wrap_i64]; omega
      have hl3 : (l : Int) < (xs.length : Int) := by omega
      have hl4 : (0 : Int) < ((l + 1 : Nat) : Int) := by omega
      have hl5 : (0 : Int) < (l : Int) + 1 := by omega
      have hl6 : IntKind.i64.wrap (l : Int) = (l : Int) := by rw [IntKind.wrap_i64]; omega
      obtain ⟨b, off, rfl, hb, c0⟩ := smp (l + 1) hlt
      obtain ⟨b', off', e', hb', c1⟩ := smp l (by omega)
      injection e' with e'
      injection e' with e1 e2
      subst e1 e2
      obtain ⟨y, hy⟩ : ∃ y, xs[l + 1] = y := ⟨_, rfl⟩
      obtain ⟨z, hzz⟩ : ∃ z, xs[l] = z := ⟨_, rfl⟩
      by_cases h4 : y ≤ z
      · obtain rfl : f = false := by
          rw [← hf]
          refine ris_false (fun h => ?_)
          have := (h (l + 1) hlt hlt).2 l (by omega) rfl
          rw [hy, hzz] at this
          omega
        rw [hy] at c0 h3
        rw [hzz] at c1
        clear hy hzz hf h3n
        go_wp2_with (first
          | (go_at_call 67; refine (iId_is h3 _).mono ?_; rintro e w2 ⟨rfl, rfl⟩))
        go_ret
        exact ⟨rfl, rfl⟩
      · have hN : MemTo xs (l + 1 + 1) := hM.next hlt h3n (fun j hj e => by obtain rfl : j = l := (by omega); rw [hy, hzz]; omega)
        rw [hy] at c0 h3
        rw [hzz] at c1
        clear hy hzz h3n
        go_wp2_with (first
          | (go_at_call 67; refine (iId_is h3 _).mono ?_; rintro e w2 ⟨rfl, rfl⟩))
        go_round
        case rel => exact ⟨l + 1 + 1, by go_num, by omega, hN⟩
        case measure => first | (simp [intOf]; done) | (simp [intOf]; omega)
    · have e : k = xs.length := by omega
      subst e
      obtain rfl : f = true := by
        rw [← hf]
        exact ris_true hM
      go_wp2
      go_ret
      exact ⟨rfl, rfl⟩
theorem rising_is {w : World} {a : Option Addr} (cap : Nat) {xs : List Int} {f : Bool} (hf : risB xs = f) (hl : xs.length ≤ 50) (smp : ISmp w.heap.size w a xs) : Calls Try.prog 31 #[.slice a xs.length cap] w fun e w' => e = .returned (.bool f) ∧ w' = w := by subst hf; exact rising_any cap hl smp
set_option maxHeartbeats 4000000 in
theorem implPlaceOk_any {wd fl : Int} {w : World} {a : Option Addr} (cap : Nat) {xs : List Int} (smp : ISmp w.heap.size w a xs) : Calls Try.prog 75 #[.agg #[.int .i64 wd, .int .i64 fl, .slice a xs.length cap]] w fun e w' => e = .returned (.bool (plB wd fl xs)) ∧ Below w.heap.size w w' := by
  cases h0 : openB wd
  · rw [pl_false (fun h => by have q := h.1; rw [h0] at q; cases q)]
    go_enter Try.func75, Try.ntmps75
    go_wp2_with (first
      | (go_at_call 101; refine (iOpen_is h0 _).mono ?_; rintro e w2 ⟨rfl, rfl⟩))
    go_ret
    exact ⟨rfl, by go_grown⟩
  cases h1 : w10B fl
  · rw [pl_false (fun h => by have q := h.2.1; rw [h1] at q; cases q)]
    go_enter Try.func75, Try.ntmps75
    go_wp2_with (first
      | (go_at_call 101; refine (iOpen_is h0 _).mono ?_; rintro e w2 ⟨rfl, rfl⟩)
      | (go_at_call 103; refine (iWin_is h1 _).mono ?_; rintro e w2 ⟨rfl, rfl⟩))
    go_ret
    exact ⟨rfl, by go_grown⟩
  by_cases h2 : (50 : Int) < (xs.length : Int)
  · rw [pl_false (fun h => by have := h.2.2.1; omega)]
    go_enter Try.func75, Try.ntmps75
    go_wp2_with (first
      | (go_at_call 101; refine (iOpen_is h0 _).mono ?_; rintro e w2 ⟨rfl, rfl⟩)
      | (go_at_call 103; refine (iWin_is h1 _).mono ?_; rintro e w2 ⟨rfl, rfl⟩))
    go_ret
    exact ⟨rfl, by go_grown⟩
  have h2' : decide ((50 : Int) < (xs.length : Int)) = false := decide_eq_false h2
  have h2n : xs.length ≤ 50 := by omega
  cases h3 : risB xs
  · rw [pl_false (fun h => ris_no h3 h.2.2.2)]
    go_enter Try.func75, Try.ntmps75
    go_wp2_with (first
      | (go_at_call 101; refine (iOpen_is h0 _).mono ?_; rintro e w2 ⟨rfl, rfl⟩)
      | (go_at_call 103; refine (iWin_is h1 _).mono ?_; rintro e w2 ⟨rfl, rfl⟩)
      | (go_at_call 31; refine (rising_is cap h3 h2n (smp.here (by go_grown))).mono ?_; rintro e w2 ⟨rfl, rfl⟩))
    go_ret
    exact ⟨rfl, by go_grown⟩
  · rw [pl_true ⟨h0, h1, h2n, ris_yes h3⟩]
    go_enter Try.func75, Try.ntmps75
    go_wp2_with (first
      | (go_at_call 101; refine (iOpen_is h0 _).mono ?_; rintro e w2 ⟨rfl, rfl⟩)
      | (go_at_call 103; refine (iWin_is h1 _).mono ?_; rintro e w2 ⟨rfl, rfl⟩)
      | (go_at_call 31; refine (rising_is cap h3 h2n (smp.here (by go_grown))).mono ?_; rintro e w2 ⟨rfl, rfl⟩))
    go_ret
    exact ⟨rfl, by go_grown⟩
theorem implPlaceOk_is {wd fl : Int} {w : World} {a : Option Addr} (cap : Nat) {xs : List Int} {f : Bool} (hf : plB wd fl xs = f) (smp : ISmp w.heap.size w a xs) : Calls Try.prog 75 #[.agg #[.int .i64 wd, .int .i64 fl, .slice a xs.length cap]] w fun e w' => e = .returned (.bool f) ∧ Below w.heap.size w w' := by subst hf; exact implPlaceOk_any cap smp
end Go.Proofs.Ytibfclfidaofkas

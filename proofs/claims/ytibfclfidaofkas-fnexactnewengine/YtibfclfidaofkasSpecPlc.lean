/- What spec's PlaceOk, Room, Share answer. -/
import Derived.Test.YtibfclfidaofkasPlc
import Derived.Test.YtibfclfidaofkasGrpF
import Derived.Test.YtibfclfidaofkasGrpX
import Derived.Deep.CutRange
import Derived.BigQuiet
import Derived.Deep.QuietTactic
namespace Go.Proofs.Ytibfclfidaofkas
open Go.ChangeShapes Go.WideShapes Go.ChangeAt Go.RowKit
set_option maxRecDepth 100000
set_option linter.unusedVariables false
set_option linter.unusedSimpArgs false

def inQ (lo x hi : Int) : Bool := decide (lo ≤ x) && decide (x ≤ hi)
theorem inQ_is {lo x hi : Int} {f : Bool} (h : inQ lo x hi = f) (w : World) : Calls Try.prog 23 #[.int .i64 x, .int .i64 lo, .int .i64 hi] w fun e w' => e = .returned (.bool f) ∧ w' = w := by subst h; exact in_any lo x hi w
def MemTo (xs : List Int) (k : Nat) : Prop := ∀ i (h : i < xs.length), i < k → (0 ≤ xs[i] ∧ xs[i] ≤ 1000000) ∧ (∀ j (hj : j < xs.length), j + 1 = i → xs[j] < xs[i])
theorem MemTo.zero (xs : List Int) : MemTo xs 0 := fun i h hk => by omega
theorem MemTo.next {xs : List Int} {k : Nat} (h : MemTo xs k) (hk : k < xs.length) (h1 : 0 ≤ xs[k] ∧ xs[k] ≤ 1000000) (h2 : ∀ j (hj : j < xs.length), j + 1 = k → xs[j] < xs[k]) : MemTo xs (k + 1) := by
  intro i hi hik
  by_cases e : i = k
  · subst e
    exact ⟨h1, h2⟩
  · exact h i hi (by omega)
/-- When a Place is right. -/
def PlOk (wd fl : Int) (xs : List Int) : Prop := openB wd = true ∧ w10B fl = true ∧ xs.length ≤ 50 ∧ MemTo xs xs.length
open Classical in
noncomputable def plB (wd fl : Int) (xs : List Int) : Bool := decide (PlOk wd fl xs)
open Classical in
theorem pl_yes {wd fl : Int} {xs : List Int} (h : plB wd fl xs = true) : PlOk wd fl xs := by
  unfold plB at h
  exact of_decide_eq_true h
open Classical in
theorem pl_no {wd fl : Int} {xs : List Int} (h : plB wd fl xs = false) : ¬ PlOk wd fl xs := by
  unfold plB at h
  exact of_decide_eq_false h
open Classical in
theorem pl_true {wd fl : Int} {xs : List Int} (h : PlOk wd fl xs) : plB wd fl xs = true := by
  unfold plB
  exact decide_eq_true h
open Classical in
theorem pl_false {wd fl : Int} {xs : List Int} (h : ¬ PlOk wd fl xs) : plB wd fl xs = false := by
  unfold plB
  exact decide_eq_false h
set_option maxHeartbeats 4000000 in
theorem specPlaceOk_any {wd fl : Int} {w : World} {a : Option Addr} (cap : Nat) {xs : List Int} (smp : ISmp w.heap.size w a xs) : Calls Try.prog 25 #[.agg #[.int .i64 wd, .int .i64 fl, .slice a xs.length cap]] w fun e w' => e = .returned (.bool (plB wd fl xs)) ∧ Below w.heap.size w w' := by
  cases h0 : openB wd
  · rw [pl_false (fun h => by have q := h.1; rw [h0] at q; cases q)]
    go_enter Try.func25, Try.ntmps25
    go_wp2_with (first
      | (go_at_call 59; refine (sBig_is h0 _).mono ?_; rintro e w2 ⟨rfl, rfl⟩))
    go_ret
    exact ⟨rfl, by go_grown⟩
  cases h1 : w10B fl
  · rw [pl_false (fun h => by have q := h.2.1; rw [h1] at q; cases q)]
    go_enter Try.func25, Try.ntmps25
    go_wp2_with (first
      | (go_at_call 59; refine (sBig_is h0 _).mono ?_; rintro e w2 ⟨rfl, rfl⟩)
      | (go_at_call 60; refine (sWin_is h1 _).mono ?_; rintro e w2 ⟨rfl, rfl⟩))
    go_ret
    exact ⟨rfl, by go_grown⟩
  by_cases h2 : (50 : Int) < (xs.length : Int)
  · rw [pl_false (fun h => by have := h.2.2.1; omega)]
    go_enter Try.func25, Try.ntmps25
    go_wp2_with (first
      | (go_at_call 59; refine (sBig_is h0 _).mono ?_; rintro e w2 ⟨rfl, rfl⟩)
      | (go_at_call 60; refine (sWin_is h1 _).mono ?_; rintro e w2 ⟨rfl, rfl⟩))
    go_ret
    exact ⟨rfl, by go_grown⟩
  have h2' : decide ((50 : Int) < (xs.length : Int)) = false := decide_eq_false h2
  obtain ⟨f, hf⟩ : ∃ f, plB wd fl xs = f := ⟨_, rfl⟩
  rw [hf]
  go_enter Try.func25, Try.ntmps25
  go_upto_region 3 with (first
    | (go_at_call 59; refine (sBig_is h0 _).mono ?_; rintro e w2 ⟨rfl, rfl⟩)
    | (go_at_call 60; refine (sWin_is h1 _).mono ?_; rintro e w2 ⟨rfl, rfl⟩))
  obtain ⟨x, hx⟩ : ∃ x, x = w.alloc (.cells #[.int .i64 wd, .int .i64 fl, .slice a xs.length cap] 67) := ⟨_, rfl⟩
  rw [← hx]
  have hbx : Below w.heap.size w x := by rw [hx]; go_grown
  have p2 : x.cell? ⟨w.heap.size, 2, none⟩ = some (.slice a xs.length cap) := by rw [hx]; go_simp
  have hxz : w.heap.size < x.heap.size := by rw [hx]; simp
  clear hx
  go_wp2
  go_loopw [3] (fun i wr => ∃ (k : Nat), i = .int .i64 k ∧ k ≤ xs.length ∧ MemTo xs k ∧ Below x.heap.size x wr) (fun i _ => xs.length - (intOf i).toNat)
  case atStart => exact ⟨0, rfl, by omega, MemTo.zero xs, Below.refl _ _⟩
  case round =>
    obtain ⟨k, rfl, hk, hM, hbr⟩ := hrel
    have p2 : wr.cell? ⟨w.heap.size, 2, none⟩ = some (.slice a xs.length cap) := (hbr.cell (by exact hxz)).trans p2
    have hbx : Below w.heap.size w wr := below_two hbx hbr
    by_cases hlt : k < xs.length
    · have hlt' : (k : Int) < (xs.length : Int) := by omega
      have hk0 : (0 : Int) ≤ (k : Int) := by omega
      cases h3 : inQ 0 xs[k] 1000000
      · obtain rfl : f = false := by
          rw [← hf]
          refine pl_false (fun h => ?_)
          have := (h.2.2.2 k hlt hlt).1
          unfold inQ at h3
          simp [this.1, this.2] at h3
        obtain ⟨b, off, rfl, hb, c0⟩ := smp.at hbx k hlt
        obtain ⟨y, hy⟩ : ∃ y, xs[k] = y := ⟨_, rfl⟩
        rw [hy] at c0 h3
        clear hy hf
        go_wp2
        go_quiet (first | (go_at_call 23; exact Calls.quiet_of_same (inQ_is h3 _)))
        go_wp2
        go_ret
        exact ⟨rfl, below_drews hbx _⟩
      have h3n : 0 ≤ xs[k] ∧ xs[k] ≤ 1000000 := by
        unfold inQ at h3
        simp only [Bool.and_eq_true, decide_eq_true_eq] at h3
        exact h3
      by_cases hz : k = 0
      · subst hz
        have hN : MemTo xs 1 := hM.next hlt h3n (fun j hj e => by omega)
        obtain ⟨b, off, rfl, hb, c0⟩ := smp.at hbx 0 hlt
        have hlt0 : (0 : Int) < (xs.length : Int) := by omega
        obtain ⟨y, hy⟩ : ∃ y, xs[0] = y := ⟨_, rfl⟩
        rw [hy] at c0 h3
        rw [Nat.add_zero] at c0
        clear hy h3n
        go_wp2
        go_quiet (first | (go_at_call 23; exact Calls.quiet_of_same (inQ_is h3 _)))
        go_wp2
        go_roundw
        case rel => exact ⟨1, by go_num, by omega, hN, below_drews hbr _⟩
        case measure => first | (simp [intOf]; done) | (simp [intOf]; omega)
      obtain ⟨l, rfl⟩ : ∃ l, k = l + 1 := ⟨k - 1, by omega⟩
      have hl1 : IntKind.i64.wrap ((l : Int) + 1 - 1) = (l : Int) := by rw [IntKind.wrap_i64]; omega
      have hl2 : IntKind.i64.wrap (((l + 1 : Nat) : Int) - 1) = (l : Int) := by rw [IntKind.wrap_i64]; omega
      have hl3 : (l : Int) < (xs.length : Int) := by omega
      have hl4 : (0 : Int) < ((l + 1 : Nat) : Int) := by omega
      have hl5 : (0 : Int) < (l : Int) + 1 := by omega
      have hl6 : IntKind.i64.wrap (l : Int) = (l : Int) := by rw [IntKind.wrap_i64]; omega
      obtain ⟨b, off, rfl, hb, c0⟩ := smp.at hbx (l + 1) hlt
      obtain ⟨b', off', e', hb', c1⟩ := smp.at hbx l (by omega)
      injection e' with e'
      injection e' with e1 e2
      subst e1 e2
      obtain ⟨y, hy⟩ : ∃ y, xs[l + 1] = y := ⟨_, rfl⟩
      obtain ⟨z, hzz⟩ : ∃ z, xs[l] = z := ⟨_, rfl⟩
      by_cases h4 : y ≤ z
      · obtain rfl : f = false := by
          rw [← hf]
          refine pl_false (fun h => ?_)
          have := (h.2.2.2 (l + 1) hlt hlt).2 l (by omega) rfl
          rw [hy, hzz] at this
          omega
        rw [hy] at c0 h3
        rw [hzz] at c1
        clear hy hzz hf h3n
        go_wp2
        go_quiet (first | (go_at_call 23; exact Calls.quiet_of_same (inQ_is h3 _)))
        go_wp2
        go_ret
        exact ⟨rfl, below_drews hbx _⟩
      · have hN : MemTo xs (l + 1 + 1) := hM.next hlt h3n (fun j hj e => by obtain rfl : j = l := (by omega); rw [hy, hzz]; omega)
        rw [hy] at c0 h3
        rw [hzz] at c1
        clear hy hzz h3n
        go_wp2
        go_quiet (first | (go_at_call 23; exact Calls.quiet_of_same (inQ_is h3 _)))
        go_wp2
        go_roundw
        case rel => exact ⟨l + 1 + 1, by go_num, by omega, hN, below_drews hbr _⟩
        case measure => first | (simp [intOf]; done) | (simp [intOf]; omega)
    · have e : k = xs.length := by omega
      subst e
      obtain rfl : f = true := by
        rw [← hf]
        exact pl_true ⟨h0, h1, by omega, hM⟩
      go_wp2
      go_ret
      exact ⟨rfl, hbx⟩
end Go.Proofs.Ytibfclfidaofkas

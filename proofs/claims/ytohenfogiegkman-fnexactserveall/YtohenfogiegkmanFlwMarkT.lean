/- The laws' marks in Turns: whole Turns. -/
import Derived.Test.YtohenfogiegkmanFlwMarkF
import Derived.Test.YtohenfogiegkmanFlwHeldF
namespace Go.Proofs.Ytohenfogiegkman
open Go.ChangeShapes Go.WideShapes Go.ChangeAt Go.RowKit
set_option maxRecDepth 100000
set_option linter.unusedVariables false
set_option linter.unusedSimpArgs false

theorem markFNil_any (a : Option Addr) (cap : Nat) (k : Int) (w : World) (k0 : 0 ≤ k) (k1 : k ≤ 1000000000) : Calls Try.prog 40 #[.slice a 0 cap, .int .i64 k] w fun e w' => e = .returned (.int .i64 k) ∧ w' = w := by
  go_enter Try.func40, Try.ntmps40
  go_wp2
  refine wp_loop_rounds 1 ?_
  rw [rounds_succ]
  go_wp2
  go_ret
  exact ⟨rfl, rfl⟩
theorem heldFNil_any (a : Option Addr) (cap : Nat) (k : Int) (w : World) (k0 : 0 ≤ k) (k1 : k ≤ 1000000000) : Calls Try.prog 41 #[.slice a 0 cap, .int .i64 k] w fun e w' => e = .returned (.int .i64 k) ∧ w' = w := by
  go_enter Try.func41, Try.ntmps41
  go_wp2
  refine wp_loop_rounds 1 ?_
  rw [rounds_succ]
  go_wp2
  go_ret
  exact ⟨rfl, rfl⟩
theorem kAt_nil (k : Int) : kAt k [] 0 = k := by show k + 2 * (0 : Int) + (0 : Int) = k; omega
theorem markTV_any {w : World} {lo hi n c : Nat} {a : Option Addr} {fs : List F8} (k : Int) (h : TV w lo hi (.slice a n c) fs) (hn : fs.length + sumL fs fs.length ≤ 1048576) (k0 : 0 ≤ k) (k1 : k ≤ 100000000) :
    Calls Try.prog 40 #[.slice a n c, .int .i64 k] w fun e w' => e = .returned (.int .i64 (kAt k fs fs.length)) ∧ TV w' lo hi (.slice a n c) (markF k fs) ∧ OnlyI lo hi w w' := by
  rcases h with ⟨g, cap, vs, e, hc, f⟩ | ⟨rfl, a', c', e⟩
  · injection e with e1 e2 e3
    subst e1 e2 e3
    refine (markFlows_any c k f hn k0 k1).mono ?_
    rintro e w' ⟨rfl, f', o'⟩
    exact ⟨rfl, .inl ⟨g, c, vs, by rw [markF_length], by rw [markF_length]; exact hc, by rw [markF_length]; exact f'⟩, o'⟩
  · injection e with e1 e2 e3
    subst e1 e2 e3
    refine (markFNil_any a c k w k0 (by omega)).mono ?_
    rintro e w' ⟨rfl, rfl⟩
    exact ⟨by rw [List.length_nil, kAt_nil], TV.zero _ _ _ _ _, OnlyI.refl _ _ _⟩
theorem heldTV_any {w : World} {lo hi n c : Nat} {a : Option Addr} {fs : List F8} (k : Int) (h : TV w lo hi (.slice a n c) (markF k fs)) (hn : fs.length + sumL fs fs.length ≤ 1048576) (k0 : 0 ≤ k) (k1 : k ≤ 100000000) :
    Calls Try.prog 41 #[.slice a n c, .int .i64 k] w fun e w' => e = .returned (.int .i64 (kAt k fs fs.length)) ∧ w' = w := by
  have hl := markF_length k fs
  rcases h with ⟨g, cap, vs, e, hc, f⟩ | ⟨e0, a', c', e⟩
  · injection e with e1 e2 e3
    rw [hl] at e2 f
    subst e1 e2 e3
    exact heldFlows_any c k f hn k0 k1
  · rw [e0] at hl
    have h0 : fs = [] := List.eq_nil_of_length_eq_zero hl.symm
    subst h0
    injection e with e1 e2 e3
    subst e1 e2 e3
    refine (heldFNil_any a c k w k0 (by omega)).mono ?_
    rintro e w' ⟨rfl, rfl⟩
    exact ⟨by rw [List.length_nil, kAt_nil], rfl⟩
theorem markTurns_any {w : World} {lo hi n c : Nat} {a : Option Addr} {fs : List F8} (at' : Int) (fresh : Bool) (k : Int) (h : TV w lo hi (.slice a n c) fs) (ht : hi ≤ w.heap.size) (hn : fs.length + sumL fs fs.length ≤ 1048576) (k0 : 0 ≤ k) (k1 : k ≤ 100000000) :
    Calls Try.prog 14 #[turnV a n c at' fresh, .int .i64 k] w fun e w' => e = .returned (.int .i64 (kAt k fs fs.length)) ∧ TV w' lo hi (.slice a n c) (markF k fs) ∧ OnlyI lo hi w w' := by
  have nb := newB w (.cells #[.slice a n c, .int .i64 at', .bool fresh] 28)
  have H : Hid (TV w lo hi (.slice a n c) fs) := h
  clear h
  go_enter Try.func14, Try.ntmps14
  go_wp2_with (first | (go_at_call 40; refine (markTV_any k (H.out.next nb) hn k0 k1).mono ?_; rintro e w2 ⟨rfl, t2, o2⟩))
  go_ret
  exact ⟨rfl, t2, (OnlyI.of_below nb).trans o2⟩
theorem kAt_pos {k : Int} {fs : List F8} (k0 : 0 ≤ k) (i : Nat) : 0 ≤ kAt k fs i := by unfold kAt; omega
theorem heldTurns_any {w : World} {lo hi n c : Nat} {a : Option Addr} {fs : List F8} (at' : Int) (fresh : Bool) (k : Int) (h : TV w lo hi (.slice a n c) (markF k fs)) (hn : fs.length + sumL fs fs.length ≤ 1048576) (k0 : 0 ≤ k) (k1 : k ≤ 100000000) :
    Calls Try.prog 15 #[turnV a n c at' fresh, .int .i64 k] w fun e w' => e = .returned (.int .i64 (kAt k fs fs.length)) ∧ Below w.heap.size w w' := by
  have nb := newB w (.cells #[.slice a n c, .int .i64 at', .bool fresh] 28)
  have H : Hid (TV w lo hi (.slice a n c) (markF k fs)) := h
  have hp := kAt_pos (fs := fs) k0 fs.length
  obtain ⟨M, hM⟩ : ∃ M, kAt k fs fs.length = M := ⟨_, rfl⟩
  have HM : Hid (kAt k fs fs.length = M) := hM
  rw [hM] at hp ⊢
  have hp' : ¬ (M < 0) := by omega
  clear h hM
  go_enter Try.func15, Try.ntmps15
  go_wp2_with (first | (go_at_call 41; refine (heldTV_any k (H.out.next nb) hn k0 k1).mono ?_; rintro e w2 ⟨rfl, rfl⟩; rw [HM.out]))
  go_ret
  exact ⟨rfl, nb⟩
end Go.Proofs.Ytohenfogiegkman

/- The laws' copies of flows and Turns. -/
import Derived.Test.YtohenfogiegkmanFlwLaw
namespace Go.Proofs.Ytohenfogiegkman
open Go.ChangeShapes Go.WideShapes Go.ChangeAt Go.RowKit
set_option maxRecDepth 100000
set_option linter.unusedVariables false
set_option linter.unusedSimpArgs false

theorem cells_three {w : World} {g : Nat} {a b c : Value} (h0 : w.cell? ⟨g, 0, none⟩ = some a) (h1 : w.cell? ⟨g, 1, none⟩ = some b) (h2 : w.cell? ⟨g, 2, none⟩ = some c) : ∀ j v, [a, b, c][j]? = some v → w.cell? ⟨g, j, none⟩ = some v := by
  intro j v hv
  match j, hv with
  | 0, hv => obtain rfl : a = v := by simpa using hv
             exact h0
  | 1, hv => obtain rfl : b = v := by simpa using hv
             exact h1
  | 2, hv => obtain rfl : c = v := by simpa using hv
             exact h2
theorem put3_zero {w : World} {g : Nat} (a b c : Value) {z0 z1 z2 : Value} (h0 : w.cell? ⟨g, 0, none⟩ = some z0) (h1 : w.cell? ⟨g, 1, none⟩ = some z1) (h2 : w.cell? ⟨g, 2, none⟩ = some z2) :
    ∀ j v, [a, b, c][j]? = some v → (((w.setCell ⟨g, 0, none⟩ a).setCell ⟨g, 1, none⟩ b).setCell ⟨g, 2, none⟩ c).cell? ⟨g, j, none⟩ = some v := by
  have h := put3_same (o := 0) a b c h0 h1 h2
  exact cells_three h.1 h.2.1 h.2.2
theorem IFill.far {w : World} {g n k : Nat} {xs : List Int} (f : IFill w g n xs k) {p : Addr} (v : Value) (h : p.block ≠ g) : IFill (w.setCell p v) g n xs k where
  any := fun j hj => ⟨by obtain ⟨z, hz⟩ := (f.any j hj).1; exact ⟨z, (set_far (by exact h)).trans hz⟩, by simpa using (f.any j hj).2⟩
  got := fun i hi hk => (set_far (by exact h)).trans (f.got i hi hk)
set_option maxHeartbeats 1000000 in
theorem toFlow_any {w : World} {a : Option Addr} (cap : Nat) (q d : Int) {xs : List Int} (h : ISmp w.heap.size w a xs) (hn : xs.length ≤ 1048576) :
    Calls Try.prog 53 #[.agg #[.int .i64 q, .int .i64 d, .slice a xs.length cap]] w fun e w' => ∃ g, e = .returned (.agg #[.int .i64 q, .int .i64 d, .slice (some ⟨g, 0, none⟩) xs.length xs.length]) ∧ w.heap.size ≤ g ∧ g < w'.heap.size ∧ IFill w' g xs.length xs xs.length ∧ Below w.heap.size w w' := by
  go_enter Try.func53, Try.ntmps53
  go_upto_region 4 with (fail)
  obtain ⟨v, hv⟩ : ∃ v, v = ((w.alloc (.cells #[.int .i64 q, .int .i64 d, .slice a xs.length cap] 72)).alloc (.cells #[.int .i64 0, .int .i64 0, .slice none 0 0] 63)).alloc (.cells #[.int .i64 q, .int .i64 d, .slice none 0 0] 63) := ⟨_, rfl⟩
  rw [← hv]
  have KW : Hid (Kept w [(w.heap.size, 2, .slice a xs.length cap), (w.heap.size + 1, 0, .int .i64 0), (w.heap.size + 1, 1, .int .i64 0), (w.heap.size + 1, 2, .slice none 0 0), (w.heap.size + 1 + 1, 0, .int .i64 q), (w.heap.size + 1 + 1, 1, .int .i64 d), (w.heap.size + 1 + 1, 2, .slice none 0 0)] [w.heap.size + 1, w.heap.size + 1 + 1] v) := by
    rw [hv]
    refine ⟨⟨⟨by simp <;> omega, by go_simp⟩, ⟨by simp <;> omega, by go_simp⟩, ⟨by simp <;> omega, by go_simp⟩, ⟨by simp <;> omega, by go_simp⟩, ⟨by simp, by go_simp⟩, ⟨by simp, by go_simp⟩, ⟨by simp, by go_simp⟩, trivial⟩, fun b hb => ?_, by go_grown⟩
    simp only [List.mem_cons, List.not_mem_nil, or_false] at hb
    rcases hb with rfl | rfl
    · exact ⟨by simp <;> omega, fun o => by go_simp⟩
    · exact ⟨by simp, fun o => by go_simp⟩
  clear hv
  have ⟨⟨z0, k0⟩, ⟨z1, k1⟩, ⟨z2, k2⟩, ⟨z3, k3⟩, ⟨z4, k4⟩, ⟨z5, k5⟩, ⟨z6, k6⟩, _⟩ := KW.out.cells
  have zv := KW.out.hb.size
  go_wp2_with (first | (go_at_call 71; refine (toInt64S_any cap (h.here KW.out.hb) hn).mono ?_; rintro e w2 ⟨g, rfl, hg0, hg1, f, hb2⟩; have K2 : Hid (Kept w [(w.heap.size, 2, .slice a xs.length cap), (w.heap.size + 1, 0, .int .i64 0), (w.heap.size + 1, 1, .int .i64 0), (w.heap.size + 1, 2, .slice none 0 0), (w.heap.size + 1 + 1, 0, .int .i64 q), (w.heap.size + 1 + 1, 1, .int .i64 d), (w.heap.size + 1 + 1, 2, .slice none 0 0)] [w.heap.size + 1, w.heap.size + 1 + 1] w2) := KW.out.next hb2; have ⟨⟨j0, l0⟩, ⟨j1, l1⟩, ⟨j2, l2⟩, ⟨j3, l3⟩, ⟨j4, l4⟩, ⟨j5, l5⟩, ⟨j6, l6⟩, _⟩ := K2.out.cells; have fr1 := (K2.out.free (w.heap.size + 1) (by simp)).2; have fr2 := (K2.out.free (w.heap.size + 1 + 1) (by simp)).2))
  refine bodyPost_ret (results_one rfl _ _ _ [.int .i64 q, .int .i64 d, .slice (some ⟨g, 0, none⟩) xs.length xs.length] rfl (put3_zero (z0 := .int .i64 0) (z1 := .int .i64 0) (z2 := .slice none 0 0) _ _ _ ((set_far (by simp)).trans l1) ((set_far (by simp)).trans l2) ((set_far (by simp)).trans l3)) Try.underlying63 rfl (by kernel_rfl)) rfl ?_
  refine ⟨g, rfl, by omega, by simp; omega, ?_, (((K2.out.hb.setCell (by simp <;> omega) _).setCell (by simp) _).setCell (by simp) _).setCell (by simp) _⟩
  exact (((f.far _ (by simp; omega)).far _ (by simp; omega)).far _ (by simp; omega)).far _ (by simp; omega)
theorem el_at {g o n c b : Nat} (h : elB (.slice (some ⟨g, o, none⟩) n c) = some b) : b = g := by
  cases n with
  | zero => cases h
  | succ n => exact (Option.some.inj h).symm
set_option maxHeartbeats 2000000 in
theorem toFlowS_any {w : World} {a : Option Addr} (cap : Nat) {fs : List F8} (h : Fls w.heap.size w a fs) (hn : fs.length ≤ 1048576) (hs : ∀ f ∈ fs, f.2.2.length ≤ 1048576) :
    Calls Try.prog 35 #[.slice a fs.length cap] w fun e w' => ∃ g vs, e = .returned (.slice (some ⟨g, 0, none⟩) fs.length fs.length) ∧ FO w' w.heap.size w'.heap.size g fs.length vs fs ∧ Below w.heap.size w w' := by
  obtain ⟨i0, hi, hz0, hz1, hz2⟩ := info_parts info_flow
  go_enter Try.func35, Try.ntmps35
  go_wp2_with (first
    | (at_make; refine wpList_make_full _ rfl _ _ 26 rfl w.heap.size 63 i0 _ 3 Try.underlying26 hi hz0 hz1 _ _ _ _ fs.length rfl rfl rfl rfl (by rw [hz2]; omega) (by unfold maxLen; omega) (Nat.le_refl _) ?_; intro w1 own1 gr1))
  have hb1 : Below w.heap.size w w1 := (Below.refl _ _).grown gr1 (Nat.le_refl _) (fun k hk => by cases hk)
  have hg1 : w.heap.size < w1.heap.size := (own1.lt _ rfl).2
  have f1 : FO w1 w.heap.size w1.heap.size w.heap.size fs.length [] (fs.take 0) := ⟨Nat.le_refl _, hg1, Nat.le_refl _, by simp, by simp, fun j hj => ⟨by
    have hc := own1.cellAt j hj
    rw [hc]
    exact made_flow _ j hj, own1.frozenAt j⟩, (fun i hi => by simp at hi), (fun i hi => by simp at hi), (fun i hi => by cases hi), (fun i j hi => by cases hi)⟩
  go_loopw [4] (fun i wr => ∃ (k : Nat) (vs : List Value), i = .int .i64 k ∧ k ≤ fs.length ∧ FO wr w.heap.size wr.heap.size w.heap.size fs.length vs (fs.take k) ∧ Below w.heap.size w wr) (fun i _ => fs.length - (intOf i).toNat)
  case atStart => exact ⟨0, [], rfl, by omega, f1, hb1⟩
  case round =>
    obtain ⟨k, vs, rfl, hk, f, hb⟩ := hrel
    by_cases hlt : k < fs.length
    · obtain ⟨b, off, sa, sc, rfl, hbl, c0, c1, c2, hsm⟩ := h.at hb k hlt
      have hlt' : (k : Int) < (fs.length : Int) := by omega
      have hsk := hs _ (List.getElem_mem hlt)
      have HT : Hid (fs.take (k + 1) = fs.take k ++ [fs[k]]) := List.take_succ_eq_append_getElem hlt
      obtain ⟨q, d, xs, hx⟩ : ∃ q d xs, fs[k] = (q, d, xs) := ⟨_, _, _, rfl⟩
      rw [hx] at c0 c1 c2 hsm hsk HT
      simp only at c0 c1 c2 hsm hsk
      clear hx
      have hzb := hb.size
      have hg := f.g1
      have hlen : (fs.take k).length = k := by rw [List.length_take]; omega
      go_wp2_with (first
        | (go_at_call 53; refine (toFlow_any sc q d (hsm.up hzb) hsk).mono ?_; rintro e w2 ⟨g2, rfl, hg20, hg21, f2, hb2⟩; have F : Hid (FO w2 w.heap.size wr.heap.size w.heap.size fs.length vs (fs.take k)) := f.next hb2; obtain ⟨⟨y0, e0⟩, u0⟩ := F.out.any (k * 3) (by omega); obtain ⟨⟨y1, e1⟩, u1⟩ := F.out.any (k * 3 + 1) (by omega); obtain ⟨⟨y2, e2⟩, u2⟩ := F.out.any (k * 3 + 2) (by omega)))
      have hio : IO w2 w.heap.size w2.heap.size (.slice (some ⟨g2, 0, none⟩) xs.length xs.length) xs := IV.io (.inl ⟨g2, _, rfl, by omega, hg21, f2, Nat.le_refl _⟩)
      have hp := F.out.push (k := k) hlen.symm hlt q d hio (fun b e => by have := el_at e; omega)
      rw [← HT.out] at hp
      have hz2 := hb2.size
      have hp' : FO (put3 w2 w.heap.size (k * 3) (.int .i64 q) (.int .i64 d) (.slice (some ⟨g2, 0, none⟩) xs.length xs.length)) w.heap.size (put3 w2 w.heap.size (k * 3) (.int .i64 q) (.int .i64 d) (.slice (some ⟨g2, 0, none⟩) xs.length xs.length)).heap.size w.heap.size fs.length (vs ++ [.slice (some ⟨g2, 0, none⟩) xs.length xs.length]) (fs.take (k + 1)) := by rw [put3_size]; exact hp
      exact ⟨⟨k + 1, _, by go_num, by omega, hp', put3_below (below_step hb hb2) (Nat.le_refl _)⟩, by simp [intOf]; omega⟩
    · have e : k = fs.length := by omega
      subst e
      rw [List.take_length] at f
      go_wp2
      go_ret
      exact ⟨_, _, rfl, f, hb⟩
set_option maxHeartbeats 1000000 in
theorem toTurns_any {w : World} {a : Option Addr} (cap : Nat) {fs : List F8} (at' : Int) (fresh : Bool) (h : Fls w.heap.size w a fs) (hn : fs.length ≤ 1048576) (hs : ∀ f ∈ fs, f.2.2.length ≤ 1048576) :
    Calls Try.prog 11 #[turnV a fs.length cap at' fresh] w fun e w' => ∃ g, e = .returned (turnV (some ⟨g, 0, none⟩) fs.length fs.length at' fresh) ∧ TV w' w.heap.size w'.heap.size (.slice (some ⟨g, 0, none⟩) fs.length fs.length) fs ∧ Below w.heap.size w w' := by
  go_enter Try.func11, Try.ntmps11
  go_upto_region 2 with (fail)
  obtain ⟨v, hv⟩ : ∃ v, v = ((w.alloc (.cells #[.slice a fs.length cap, .int .i64 at', .bool fresh] 24)).alloc (.cells #[.slice none 0 0, .int .i64 0, .bool false] 28)).alloc (.cells #[.slice none 0 0, .int .i64 0, .bool false] 28) := ⟨_, rfl⟩
  rw [← hv]
  have KW : Hid (Kept w [(w.heap.size, 0, .slice a fs.length cap), (w.heap.size, 1, .int .i64 at'), (w.heap.size, 2, .bool fresh), (w.heap.size + 1, 0, .slice none 0 0), (w.heap.size + 1, 1, .int .i64 0), (w.heap.size + 1, 2, .bool false), (w.heap.size + 1 + 1, 0, .slice none 0 0), (w.heap.size + 1 + 1, 1, .int .i64 0), (w.heap.size + 1 + 1, 2, .bool false)] [w.heap.size + 1, w.heap.size + 1 + 1] v) := by
    rw [hv]
    refine ⟨⟨⟨by simp <;> omega, by go_simp⟩, ⟨by simp <;> omega, by go_simp⟩, ⟨by simp <;> omega, by go_simp⟩, ⟨by simp <;> omega, by go_simp⟩, ⟨by simp <;> omega, by go_simp⟩, ⟨by simp <;> omega, by go_simp⟩, ⟨by simp, by go_simp⟩, ⟨by simp, by go_simp⟩, ⟨by simp, by go_simp⟩, trivial⟩, fun b hb => ?_, by go_grown⟩
    simp only [List.mem_cons, List.not_mem_nil, or_false] at hb
    rcases hb with rfl | rfl
    · exact ⟨by simp <;> omega, fun o => by go_simp⟩
    · exact ⟨by simp, fun o => by go_simp⟩
  clear hv
  have ⟨⟨z0, k0⟩, ⟨z1, k1⟩, ⟨z2, k2⟩, ⟨z3, k3⟩, ⟨z4, k4⟩, ⟨z5, k5⟩, ⟨z6, k6⟩, ⟨z7, k7⟩, ⟨z8, k8⟩, _⟩ := KW.out.cells
  have zv := KW.out.hb.size
  go_wp2_with (first | (go_at_call 35; refine (toFlowS_any cap (h.here KW.out.hb) hn hs).mono ?_; rintro e w2 ⟨g, vs, rfl, f, hb2⟩; have K2 : Hid (Kept w [(w.heap.size, 0, .slice a fs.length cap), (w.heap.size, 1, .int .i64 at'), (w.heap.size, 2, .bool fresh), (w.heap.size + 1, 0, .slice none 0 0), (w.heap.size + 1, 1, .int .i64 0), (w.heap.size + 1, 2, .bool false), (w.heap.size + 1 + 1, 0, .slice none 0 0), (w.heap.size + 1 + 1, 1, .int .i64 0), (w.heap.size + 1 + 1, 2, .bool false)] [w.heap.size + 1, w.heap.size + 1 + 1] w2) := KW.out.next hb2; have ⟨⟨j0, l0⟩, ⟨j1, l1⟩, ⟨j2, l2⟩, ⟨j3, l3⟩, ⟨j4, l4⟩, ⟨j5, l5⟩, ⟨j6, l6⟩, ⟨j7, l7⟩, ⟨j8, l8⟩, _⟩ := K2.out.cells; have fr1 := (K2.out.free (w.heap.size + 1) (by simp)).2; have fr2 := (K2.out.free (w.heap.size + 1 + 1) (by simp)).2))
  refine bodyPost_ret (results_one rfl _ _ _ [.slice (some ⟨g, 0, none⟩) fs.length fs.length, .int .i64 at', .bool fresh] rfl (put3_zero (z0 := .slice none 0 0) (z1 := .int .i64 0) (z2 := .bool false) _ _ _ ((set_far (by simp)).trans ((set_far (by simp)).trans ((set_far (by simp)).trans l3))) ((set_far (by simp)).trans ((set_far (by simp)).trans ((set_far (by simp)).trans l4))) ((set_far (by simp)).trans ((set_far (by simp)).trans ((set_far (by simp)).trans l5)))) Try.underlying28 rfl (by kernel_rfl)) rfl ?_
  have g0 := f.g0
  have hI : OnlyI (w.heap.size + 1) v.heap.size w2 ((((((w2.setCell ⟨w.heap.size + 1 + 1, 0, none⟩ (.slice (some ⟨g, 0, none⟩) fs.length fs.length)).setCell ⟨w.heap.size + 1 + 1, 1, none⟩ (.int .i64 at')).setCell ⟨w.heap.size + 1 + 1, 2, none⟩ (.bool fresh)).setCell ⟨w.heap.size + 1, 0, none⟩ (.slice (some ⟨g, 0, none⟩) fs.length fs.length)).setCell ⟨w.heap.size + 1, 1, none⟩ (.int .i64 at')).setCell ⟨w.heap.size + 1, 2, none⟩ (.bool fresh)) :=
    ((((((OnlyI.refl _ _ _).setCell (by omega) (by omega) _).setCell (by omega) (by omega) _).setCell (by omega) (by omega) _).setCell (by omega) (by omega) _).setCell (by omega) (by omega) _).setCell (by omega) (by omega) _
  have hT : TV w2 v.heap.size w2.heap.size (.slice (some ⟨g, 0, none⟩) fs.length fs.length) fs := .inl ⟨g, _, vs, rfl, Nat.le_refl _, f⟩
  have hz2 := hb2.size
  exact ⟨g, rfl, ((hT.onlyI hI (.inr (Nat.le_refl _))).wider (by omega) (by simp) (by simp)), K2.out.hb.trans (hI.below (by omega) (by omega))⟩
end Go.Proofs.Ytohenfogiegkman

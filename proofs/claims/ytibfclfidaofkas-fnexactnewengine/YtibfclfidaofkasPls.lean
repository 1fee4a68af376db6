/- Lists of Places: the laws' sizes, copies, comparisons and marks. -/
import Derived.Test.YtibfclfidaofkasPlc
import Derived.Test.YtibfclfidaofkasGrpV
import Derived.Deep.CutRange
namespace Go.Proofs.Ytibfclfidaofkas
open Go.ChangeShapes Go.WideShapes Go.ChangeAt Go.RowKit
set_option maxRecDepth 100000
set_option linter.unusedVariables false
set_option linter.unusedSimpArgs false

theorem szPlace_gen (q d : Int) (a : Option Addr) (n cap : Nat) (left : Int) (w : World) (hn : (n : Int) ≤ 9223372036854775807) (h0 : 0 ≤ left) (h1 : left ≤ 1048576) :
    Calls Try.prog 52 #[.agg #[.int .i64 q, .int .i64 d, .slice a n cap], .int .i64 left] w fun e w' => e = .returned (.int .i64 (if (n : Int) ≤ left then left - n else -1)) ∧ Below w.heap.size w w' := by
  by_cases h : (n : Int) ≤ left
  · have f : (0 : Int) ≤ left - (n : Int) := by omega
    rw [if_pos h]
    go_enter Try.func52, Try.ntmps52
    go_wp2_with (first | (go_at_call 90; refine (szInt64S_gen _ _ _ _ _ hn h0 h1).mono ?_; rintro e w2 ⟨rfl, rfl⟩; rw [if_pos h]))
    go_ret
    exact ⟨rfl, by go_grown⟩
  · rw [if_neg h]
    go_enter Try.func52, Try.ntmps52
    go_wp2_with (first | (go_at_call 90; refine (szInt64S_gen _ _ _ _ _ hn h0 h1).mono ?_; rintro e w2 ⟨rfl, rfl⟩; rw [if_neg h]))
    go_ret
    exact ⟨rfl, by go_grown⟩
set_option maxHeartbeats 2000000 in
theorem szPlaceS_gen {w : World} {a : Option Addr} (cap : Nat) {fs : List F8} (left : Int) (h0 : 0 ≤ left) (h1 : left ≤ 1048576) (h : Fls w.heap.size w a fs) (hm : fs.length ≤ maxLen) (hs : ∀ f ∈ fs, f.2.2.length ≤ maxLen) :
    Calls Try.prog 19 #[.slice a fs.length cap, .int .i64 left] w fun e w' => e = .returned (.int .i64 (if (fs.length : Int) + (sumL fs fs.length : Int) ≤ left then left - (fs.length : Int) - (sumL fs fs.length : Int) else -1)) ∧ Below w.heap.size w w' := by
  have hm' : (fs.length : Int) ≤ 9223372036854775807 := by unfold maxLen at hm; omega
  obtain ⟨r, hr⟩ : ∃ r : Int, (if (fs.length : Int) + (sumL fs fs.length : Int) ≤ left then left - (fs.length : Int) - (sumL fs fs.length : Int) else -1) = r := ⟨_, rfl⟩
  have HR : Hid ((if (fs.length : Int) + (sumL fs fs.length : Int) ≤ left then left - (fs.length : Int) - (sumL fs fs.length : Int) else -1) = r) := hr
  rw [hr]
  clear hr
  have rl : IntKind.i64.wrap (left - (fs.length : Int)) = left - (fs.length : Int) := by rw [IntKind.wrap_i64]; omega
  by_cases hn : (fs.length : Int) ≤ left
  · have f : (0 : Int) ≤ left - (fs.length : Int) := by omega
    go_enter Try.func19, Try.ntmps19
    go_wp2
    go_loopw [1, 5] (fun l i wr => ∃ k : Nat, i = .int .i64 k ∧ k ≤ fs.length ∧ l = .int .i64 (left - (fs.length : Int) - (sumL fs k : Int)) ∧ (fs.length : Int) + (sumL fs k : Int) ≤ left ∧ Below w.heap.size w wr) (fun _ i _ => fs.length - (intOf i).toNat)
    case atStart => exact ⟨0, rfl, by omega, by show _ = Value.int .i64 (left - (fs.length : Int) - (0 : Nat)); rw [Int.natCast_zero, Int.sub_zero], by show (fs.length : Int) + (0 : Nat) ≤ _; omega, Below.refl _ _⟩
    case round =>
      obtain ⟨k, rfl, hk, rfl, hle, hb⟩ := hrel
      by_cases hlt : k < fs.length
      · obtain ⟨b, off, sa, sc, rfl, hbl, c0, c1, c2, _⟩ := h.at hb k hlt
        have hlt' : (k : Int) < (fs.length : Int) := by omega
        have hsk := hs _ (List.getElem_mem hlt)
        have hnx := sumL_next hlt
        have hmo := sumL_mono fs (show k + 1 ≤ fs.length by omega)
        obtain ⟨m, hmm⟩ : ∃ m, fs[k].2.2.length = m := ⟨_, rfl⟩
        rw [hmm] at c2 hsk hnx
        obtain ⟨s, hss⟩ : ∃ s, sumL fs k = s := ⟨_, rfl⟩
        rw [hss] at hle hnx ⊢
        have hl0 : (0 : Int) ≤ left - (fs.length : Int) - (s : Int) := by omega
        have hl1 : left - (fs.length : Int) - (s : Int) ≤ 1048576 := by omega
        have hmi : (m : Int) ≤ 9223372036854775807 := by unfold maxLen at hsk; omega
        have HN : Hid (sumL fs (k + 1) = s + m) := hnx
        have HM : Hid (sumL fs (k + 1) ≤ sumL fs fs.length) := hmo
        clear hmm hss hnx hmo
        by_cases hc : (m : Int) ≤ left - (fs.length : Int) - (s : Int)
        · have f0 : (0 : Int) ≤ left - (fs.length : Int) - (s : Int) - (m : Int) := by omega
          go_wp2_with (first | (go_at_call 52; refine (szPlace_gen _ _ _ _ _ _ _ hmi hl0 hl1).mono ?_; rintro e w2 ⟨rfl, hb2⟩; rw [if_pos hc]))
          go_roundw
          case rel =>
            refine ⟨k + 1, by go_num, by omega, ?_, by rw [HN.out]; omega, below_step hb hb2⟩
            rw [HN.out]
            congr 1
            omega
          case measure => first | (simp [intOf]; done) | (simp [intOf]; omega)
        · go_wp2_with (first | (go_at_call 52; refine (szPlace_gen _ _ _ _ _ _ _ hmi hl0 hl1).mono ?_; rintro e w2 ⟨rfl, hb2⟩; rw [if_neg hc]))
          go_ret
          exact ⟨congrArg (fun x => Ending.returned (.int .i64 x)) ((if_neg (by have := HN.out; have := HM.out; omega)).symm.trans HR.out), below_step hb hb2⟩
      · have e : k = fs.length := by omega
        subst e
        have HL : Hid ((fs.length : Int) + (sumL fs fs.length : Int) ≤ left) := hle
        clear hle
        go_wp2
        go_ret
        exact ⟨congrArg (fun x => Ending.returned (.int .i64 x)) ((if_pos HL.out).symm.trans HR.out), hb⟩
  · have f : left - (fs.length : Int) < 0 := by omega
    have e : r = -1 := HR.out.symm.trans (if_neg (by omega))
    subst e
    go_enter Try.func19, Try.ntmps19
    go_wp2
    go_ret
    exact ⟨rfl, Below.refl _ _⟩
theorem info_place : (Try.prog.info? 67).map (fun i => (i.zero, i.size, i.bytes)) = some (some (.agg #[.int .i64 0, .int .i64 0, .slice none 0 0]), 3, 40) := by kernel_rfl
set_option maxHeartbeats 1000000 in
theorem toPlaceP_any {w : World} {a : Option Addr} (cap : Nat) (q d : Int) {xs : List Int} (h : ISmp w.heap.size w a xs) (hn : xs.length ≤ 1048576) :
    Calls Try.prog 62 #[.agg #[.int .i64 q, .int .i64 d, .slice a xs.length cap]] w fun e w' => ∃ g, e = .returned (.agg #[.int .i64 q, .int .i64 d, .slice (some ⟨g, 0, none⟩) xs.length xs.length]) ∧ w.heap.size ≤ g ∧ g < w'.heap.size ∧ IFill w' g xs.length xs xs.length ∧ Below w.heap.size w w' := by
  go_enter Try.func62, Try.ntmps62
  go_upto_region 4 with (fail)
  obtain ⟨v, hv⟩ : ∃ v, v = ((w.alloc (.cells #[.int .i64 q, .int .i64 d, .slice a xs.length cap] 91)).alloc (.cells #[.int .i64 0, .int .i64 0, .slice none 0 0] 67)).alloc (.cells #[.int .i64 q, .int .i64 d, .slice none 0 0] 67) := ⟨_, rfl⟩
  rw [← hv]
  have KW : Hid (Kept w [(w.heap.size, 2, .slice a xs.length cap), (w.heap.size + 1, 0, .int .i64 0), (w.heap.size + 1, 1, .int .i64 0), (w.heap.size + 1, 2, .slice none 0 0), (w.heap.size + 1 + 1, 0, .int .i64 q), (w.heap.size + 1 + 1, 1, .int .i64 d), (w.heap.size + 1 + 1, 2, .slice none 0 0)] [w.heap.size + 1, w.heap.size + 1 + 1] v) := by
    rw [hv]
    refine ⟨⟨⟨by simp <;> omega, by go_simp⟩, ⟨by simp <;> omega, by go_simp⟩, ⟨by simp <;> omega, by go_simp⟩, ⟨by simp <;> omega, by go_simp⟩, ⟨by simp, by go_simp⟩, ⟨by simp, by go_simp⟩, ⟨by simp, by go_simp⟩, trivial⟩, fun b hb => ?_, by go_grown⟩
    simp only [List.mem_cons, List.not_mem_nil, or_false] at hb
    rcases hb with rfl | rfl
    · exact ⟨by simp <;> omega, fun o => by go_simp⟩
    · exact ⟨by simp, fun o => by go_simp⟩
  clear hv
  have ⟨⟨z0, k0⟩, ⟨z1, k1⟩, ⟨z2, k2⟩, ⟨z3, k3⟩, ⟨z4, k4⟩, ⟨z5, k5⟩, ⟨z6, k6⟩, _⟩ := KW.out.cells
  have zv := KW.out.hb.size
  go_wp2_with (first | (go_at_call 93; refine (toInt64S_any cap (h.here KW.out.hb) hn).mono ?_; rintro e w2 ⟨g, rfl, hg0, hg1, f, hb2⟩; have K2 : Hid (Kept w [(w.heap.size, 2, .slice a xs.length cap), (w.heap.size + 1, 0, .int .i64 0), (w.heap.size + 1, 1, .int .i64 0), (w.heap.size + 1, 2, .slice none 0 0), (w.heap.size + 1 + 1, 0, .int .i64 q), (w.heap.size + 1 + 1, 1, .int .i64 d), (w.heap.size + 1 + 1, 2, .slice none 0 0)] [w.heap.size + 1, w.heap.size + 1 + 1] w2) := KW.out.next hb2; have ⟨⟨j0, l0⟩, ⟨j1, l1⟩, ⟨j2, l2⟩, ⟨j3, l3⟩, ⟨j4, l4⟩, ⟨j5, l5⟩, ⟨j6, l6⟩, _⟩ := K2.out.cells; have fr1 := (K2.out.free (w.heap.size + 1) (by simp)).2; have fr2 := (K2.out.free (w.heap.size + 1 + 1) (by simp)).2))
  refine bodyPost_ret (results_one rfl _ _ _ [.int .i64 q, .int .i64 d, .slice (some ⟨g, 0, none⟩) xs.length xs.length] rfl (put3_zero (z0 := .int .i64 0) (z1 := .int .i64 0) (z2 := .slice none 0 0) _ _ _ ((set_far (by simp)).trans l1) ((set_far (by simp)).trans l2) ((set_far (by simp)).trans l3)) Try.underlying67 rfl (by kernel_rfl)) rfl ?_
  refine ⟨g, rfl, by omega, by simp; omega, ?_, (((K2.out.hb.setCell (by simp <;> omega) _).setCell (by simp) _).setCell (by simp) _).setCell (by simp) _⟩
  exact (((f.far _ (by simp; omega)).far _ (by simp; omega)).far _ (by simp; omega)).far _ (by simp; omega)
set_option maxHeartbeats 2000000 in
theorem toPlaceS_any {w : World} {a : Option Addr} (cap : Nat) {fs : List F8} (h : Fls w.heap.size w a fs) (hn : fs.length ≤ 1048576) (hs : ∀ f ∈ fs, f.2.2.length ≤ 1048576) :
    Calls Try.prog 27 #[.slice a fs.length cap] w fun e w' => ∃ g vs, e = .returned (.slice (some ⟨g, 0, none⟩) fs.length fs.length) ∧ FO w' w.heap.size w'.heap.size g fs.length vs fs ∧ Below w.heap.size w w' := by
  obtain ⟨i0, hi, hz0, hz1, hz2⟩ := info_parts info_place
  go_enter Try.func27, Try.ntmps27
  go_wp2_with (first
    | (at_make; refine wpList_make_full _ rfl _ _ 36 rfl w.heap.size 67 i0 _ 3 Try.underlying36 hi hz0 hz1 _ _ _ _ fs.length rfl rfl rfl rfl (by rw [hz2]; omega) (by unfold maxLen; omega) (Nat.le_refl _) ?_; intro w1 own1 gr1))
  have hb1 : Below w.heap.size w w1 := (Below.refl _ _).grown gr1 (Nat.le_refl _) (fun k hk => by cases hk)
  have hg1 : w.heap.size < w1.heap.size := (own1.lt _ rfl).2
  have f1 : FO w1 w.heap.size w1.heap.size w.heap.size fs.length [] (fs.take 0) := ⟨Nat.le_refl _, hg1, Nat.le_refl _, by simp, by simp, fun j hj => ⟨by
    have hc := own1.cellAt j hj
    rw [hc]
    exact made_flow _ j hj, own1.frozenAt j⟩, (fun i hi => by simp at hi), (fun i hi => by simp at hi), (fun i hi => by cases hi), (fun i j hi => by cases hi)⟩
  go_loopw [4] (fun i wr => ∃ (k : Nat) (vs : List Value), i = .int .i64 k ∧ k ≤ fs.length ∧ FO wr w.heap.size wr.heap.size w.heap.size fs.length vs (fs.take k) ∧ Below w.heap.size w wr) (fun i _ => fs.length - (intOf i).toNat)
  case atStart => exact ⟨0, [], rfl, by omega, f1, hb1⟩
  case round =>
    obtain ⟨k, vs, rfl, hk, f, hb⟩ := hrel
    by_cases hlt : k < fs.length
    · obtain ⟨b, off, sa, sc, rfl, hbl, c0, c1, c2, hsm⟩ := h.at hb k hlt
      have hlt' : (k : Int) < (fs.length : Int) := by omega
      have hsk := hs _ (List.getElem_mem hlt)
      have HT : Hid (fs.take (k + 1) = fs.take k ++ [fs[k]]) := List.take_succ_eq_append_getElem hlt
      obtain ⟨q, d, xs, hx⟩ : ∃ q d xs, fs[k] = (q, d, xs) := ⟨_, _, _, rfl⟩
      rw [hx] at c0 c1 c2 hsm hsk HT
      simp only at c0 c1 c2 hsm hsk
      clear hx
      have hzb := hb.size
      have hg := f.g1
      have hlen : (fs.take k).length = k := by rw [List.length_take]; omega
      go_wp2_with (first
        | (go_at_call 62; refine (toPlaceP_any sc q d (hsm.up hzb) hsk).mono ?_; rintro e w2 ⟨g2, rfl, hg20, hg21, f2, hb2⟩; have F : Hid (FO w2 w.heap.size wr.heap.size w.heap.size fs.length vs (fs.take k)) := f.next hb2; obtain ⟨⟨y0, e0⟩, u0⟩ := F.out.any (k * 3) (by omega); obtain ⟨⟨y1, e1⟩, u1⟩ := F.out.any (k * 3 + 1) (by omega); obtain ⟨⟨y2, e2⟩, u2⟩ := F.out.any (k * 3 + 2) (by omega)))
      have hio : IO w2 w.heap.size w2.heap.size (.slice (some ⟨g2, 0, none⟩) xs.length xs.length) xs := IV.io (.inl ⟨g2, _, rfl, by omega, hg21, f2, Nat.le_refl _⟩)
      have hp := F.out.push (k := k) hlen.symm hlt q d hio (fun b e => by have := el_at e; omega)
      rw [← HT.out] at hp
      have hz2 := hb2.size
      have hp' : FO (put3 w2 w.heap.size (k * 3) (.int .i64 q) (.int .i64 d) (.slice (some ⟨g2, 0, none⟩) xs.length xs.length)) w.heap.size (put3 w2 w.heap.size (k * 3) (.int .i64 q) (.int .i64 d) (.slice (some ⟨g2, 0, none⟩) xs.length xs.length)).heap.size w.heap.size fs.length (vs ++ [.slice (some ⟨g2, 0, none⟩) xs.length xs.length]) (fs.take (k + 1)) := by rw [put3_size]; exact hp
      exact ⟨⟨k + 1, _, by go_num, by omega, hp', put3_below (below_step hb hb2) (Nat.le_refl _)⟩, by simp [intOf]; omega⟩
    · have e : k = fs.length := by omega
      subst e
      rw [List.take_length] at f
      go_wp2
      go_ret
      exact ⟨_, _, rfl, f, hb⟩
set_option maxHeartbeats 1000000 in
theorem eqPlaceP_any {w : World} {a b : Option Addr} (c c' : Nat) (q d q' d' : Int) {xs ys : List Int} (ha : ISmp w.heap.size w a xs) (hb : ISmp w.heap.size w b ys) (hn : xs.length ≤ 4611686018427387904) :
    Calls Try.prog 79 #[.agg #[.int .i64 q, .int .i64 d, .slice a xs.length c], .agg #[.int .i64 q', .int .i64 d', .slice b ys.length c']] w fun e w' => e = .returned (.bool (decide (q = q' ∧ d = d' ∧ xs = ys))) ∧ Below w.heap.size w w' := by
  have nb : Below w.heap.size w ((w.alloc (.cells #[.int .i64 q, .int .i64 d, .slice a xs.length c] 67)).alloc (.cells #[.int .i64 q', .int .i64 d', .slice b ys.length c'] 67)) := by go_grown
  by_cases h1 : q = q'
  · subst h1
    by_cases h2 : d = d'
    · subst h2
      have HE : Hid (decide (q = q ∧ d = d ∧ xs = ys) = decide (xs = ys)) := by show decide (q = q ∧ d = d ∧ xs = ys) = decide (xs = ys); simp
      rw [HE.out]
      obtain ⟨f, hf⟩ : ∃ f, decide (xs = ys) = f := ⟨_, rfl⟩
      have HF : Hid (decide (xs = ys) = f) := hf
      rw [hf]
      clear hf HE
      cases f
      all_goals
        go_enter Try.func79, Try.ntmps79
        go_wp2_with (first | (go_at_call 111; refine (eqInts_any c c' (ha.here nb) (hb.here nb) hn).mono ?_; rintro e w2 ⟨rfl, hb2⟩; rw [HF.out]))
        go_ret
        exact ⟨rfl, below_step nb hb2⟩
    · have h2' : (d == d') = false := by simp [h2]
      rw [decide_eq_false (fun h => h2 h.2.1)]
      go_enter Try.func79, Try.ntmps79
      go_wp2
      go_ret
      exact ⟨rfl, nb⟩
  · have h1' : (q == q') = false := by simp [h1]
    rw [decide_eq_false (fun h => h1 h.1)]
    go_enter Try.func79, Try.ntmps79
    go_wp2
    go_ret
    exact ⟨rfl, nb⟩
set_option maxHeartbeats 2000000 in
theorem eqPlaceS_any {w : World} {a b : Option Addr} (cap cap' : Nat) {xs ys : List F8} (ha : Fls w.heap.size w a xs) (hb : Fls w.heap.size w b ys) (hn : xs.length ≤ 4611686018427387904) (hm : ∀ f ∈ xs, f.2.2.length ≤ 4611686018427387904) :
    Calls Try.prog 38 #[.slice a xs.length cap, .slice b ys.length cap'] w fun e w' => e = .returned (.bool (decide (xs = ys))) ∧ Below w.heap.size w w' := by
  by_cases hl : xs.length = ys.length
  · rw [hl]
    have HL : Hid (xs.length = ys.length) := hl
    clear hl
    go_enter Try.func38, Try.ntmps38
    go_wp2
    go_loopw [5] (fun i wr => ∃ k : Nat, i = .int .i64 k ∧ k ≤ ys.length ∧ xs.take k = ys.take k ∧ Below w.heap.size w wr) (fun i _ => ys.length - (intOf i).toNat)
    case atStart => exact ⟨0, rfl, by omega, by simp, by go_grown⟩
    case round =>
      obtain ⟨k, rfl, hk, ht, hbw⟩ := hrel
      by_cases hlt2 : k < ys.length
      · have hlt : k < xs.length := by have := HL.out; omega
        obtain ⟨b1, o1, s1, sc1, rfl, hb1, c0, c1, c2, m1⟩ := ha.at hbw k hlt
        obtain ⟨b2, o2, s2, sc2, rfl, hb2, d0, d1, d2, m2⟩ := hb.at hbw k hlt2
        have hlt' : (k : Int) < (ys.length : Int) := by omega
        have hnn := hn
        have hly := HL.out
        rw [hly] at hnn
        clear hly
        have hp := hm _ (List.getElem_mem hlt)
        obtain ⟨p, hpp⟩ : ∃ p, xs[k] = p := ⟨_, rfl⟩
        obtain ⟨r, hrr⟩ : ∃ r, ys[k] = r := ⟨_, rfl⟩
        rw [hpp] at c0 c1 c2 m1 hp
        rw [hrr] at d0 d1 d2 m2
        have HP : Hid (xs[k] = p) := hpp
        have HQ : Hid (ys[k] = r) := hrr
        clear hpp hrr
        obtain ⟨p0, p1, px⟩ := p
        obtain ⟨r0, r1, rx⟩ := r
        simp only at c0 c1 c2 m1 hp d0 d1 d2 m2
        have HS1 : Hid (ISmp w.heap.size wr.drew s1 px) := m1.mono (Below.refl _ _).drew
        have HS2 : Hid (ISmp w.heap.size wr.drew s2 rx) := m2.mono (Below.refl _ _).drew
        clear m1 m2
        obtain ⟨d, hd⟩ : ∃ d, decide (p0 = r0 ∧ p1 = r1 ∧ px = rx) = d := ⟨_, rfl⟩
        have HD : Hid (decide (p0 = r0 ∧ p1 = r1 ∧ px = rx) = d) := hd
        clear hd
        have hk0 : (0 : Int) ≤ (k : Int) := by omega
        have hw1 : b1 < wr.drew.heap.size := Nat.lt_of_lt_of_le hb1 hbw.size
        have hw2 : b2 < wr.drew.heap.size := Nat.lt_of_lt_of_le hb2 hbw.size
        cases d
        · go_wp2
          go_region_held3 (fun w' => w'.cell? ⟨b1, o1 + k * 3, none⟩ = some (.int .i64 p0) ∧ w'.cell? ⟨b1, o1 + k * 3 + 1, none⟩ = some (.int .i64 p1) ∧ w'.cell? ⟨b1, o1 + k * 3 + 2, none⟩ = some (.slice s1 px.length sc1) ∧ w'.cell? ⟨b2, o2 + k * 3, none⟩ = some (.int .i64 r0) ∧ w'.cell? ⟨b2, o2 + k * 3 + 1, none⟩ = some (.int .i64 r1) ∧ w'.cell? ⟨b2, o2 + k * 3 + 2, none⟩ = some (.slice s2 rx.length sc2)) (go_keep)
            (first | (go_at_call 79; refine (eqPlaceP_any sc1 sc2 p0 p1 r0 r1 (HS1.out.up (by exact hbw.size)) (HS2.out.up (by exact hbw.size)) hp).mono ?_; rintro e w2 ⟨rfl, hb3⟩; rw [HD.out]; have q0 := (below_cells hb3 _ _ hw1).trans c0; have q1 := (below_cells hb3 _ _ hw1).trans c1; have q2 := (below_cells hb3 _ _ hw1).trans c2; have q3 := (below_cells hb3 _ _ hw2).trans d0; have q4 := (below_cells hb3 _ _ hw2).trans d1; have q5 := (below_cells hb3 _ _ hw2).trans d2; have hbx : Below w.heap.size w w2 := hbw.drew.trans (hb3.mono hbw.size)))
          go_wp2
          go_ret
          refine ⟨retB (decide_eq_false (fun e => of_decide_eq_false HD.out ?_)).symm, hbx⟩
          subst e
          have e2 := HP.out.symm.trans HQ.out
          injection e2 with e3 e4
          injection e4 with e4 e5
          exact ⟨e3, e4, e5⟩
        · go_wp2
          go_region_held3 (fun w' => w'.cell? ⟨b1, o1 + k * 3, none⟩ = some (.int .i64 p0) ∧ w'.cell? ⟨b1, o1 + k * 3 + 1, none⟩ = some (.int .i64 p1) ∧ w'.cell? ⟨b1, o1 + k * 3 + 2, none⟩ = some (.slice s1 px.length sc1) ∧ w'.cell? ⟨b2, o2 + k * 3, none⟩ = some (.int .i64 r0) ∧ w'.cell? ⟨b2, o2 + k * 3 + 1, none⟩ = some (.int .i64 r1) ∧ w'.cell? ⟨b2, o2 + k * 3 + 2, none⟩ = some (.slice s2 rx.length sc2)) (go_keep)
            (first | (go_at_call 79; refine (eqPlaceP_any sc1 sc2 p0 p1 r0 r1 (HS1.out.up (by exact hbw.size)) (HS2.out.up (by exact hbw.size)) hp).mono ?_; rintro e w2 ⟨rfl, hb3⟩; rw [HD.out]; have q0 := (below_cells hb3 _ _ hw1).trans c0; have q1 := (below_cells hb3 _ _ hw1).trans c1; have q2 := (below_cells hb3 _ _ hw1).trans c2; have q3 := (below_cells hb3 _ _ hw2).trans d0; have q4 := (below_cells hb3 _ _ hw2).trans d1; have q5 := (below_cells hb3 _ _ hw2).trans d2; have hbx : Below w.heap.size w w2 := hbw.drew.trans (hb3.mono hbw.size)))
          go_wp2
          have hx := of_decide_eq_true HD.out
          have ht' : xs.take (k + 1) = ys.take (k + 1) := by
            rw [List.take_succ_eq_append_getElem hlt, List.take_succ_eq_append_getElem hlt2, ht, HP.out, HQ.out, hx.1, hx.2.1, hx.2.2]
          go_roundw
          case rel => exact ⟨k + 1, by go_num, by omega, ht', hbx⟩
          case measure => first | (simp [intOf]; done) | (simp [intOf]; omega)
      · have e : k = ys.length := by omega
        subst e
        have hxy : xs = ys := by
          rw [List.take_length, ← HL.out, List.take_length] at ht; exact ht
        go_wp2
        go_ret
        exact ⟨retB (decide_eq_true hxy).symm, hbw⟩
  · have hlb : ((xs.length : Int) == (ys.length : Int)) = false := by simp; omega
    rw [decide_eq_false (fun e => hl (by rw [e]))]
    go_enter Try.func38, Try.ntmps38
    go_wp2
    go_ret
    exact ⟨rfl, by go_grown⟩
set_option maxHeartbeats 4000000 in
theorem markPlaces_any {w : World} {lo hi g : Nat} {vs : List Value} {fs : List F8} (cap : Nat) (k : Int) (f : FO w lo hi g fs.length vs fs) (hn : fs.length + sumL fs fs.length ≤ 1048576) (k0 : 0 ≤ k) (k1 : k ≤ 100000000) :
    Calls Try.prog 46 #[.slice (some ⟨g, 0, none⟩) fs.length cap, .int .i64 k] w fun e w' => e = .returned (.int .i64 (kAt k fs fs.length)) ∧ FO w' lo hi g fs.length vs (markF k fs) ∧ OnlyI lo hi w w' := by
  have hML := markF_length k fs
  have hni : (fs.length : Int) ≤ 1048576 := by omega
  go_enter Try.func46, Try.ntmps46
  go_wp2
  go_loopw [1, 5] (fun s i wr => ∃ j : Nat, i = .int .i64 j ∧ j ≤ fs.length ∧ s = .int .i64 (kAt k fs j) ∧ FO wr lo hi g fs.length vs (mix (markF k fs) fs j) ∧ OnlyI lo hi w wr) (fun _ i _ => fs.length - (intOf i).toNat)
  case atStart => exact ⟨0, rfl, by omega, by show _ = Value.int .i64 (k + 2 * (0 : Int) + (0 : Int)); congr 1; omega, by rw [mix_zero]; exact f, OnlyI.refl _ _ _⟩
  case round =>
    obtain ⟨j, rfl, hj, rfl, fr, hO⟩ := hrel
    by_cases hlt : j < fs.length
    · have hlt' : (j : Int) < (fs.length : Int) := by omega
      have hm : j < (mix (markF k fs) fs j).length := by rw [mix_length hML hj]; exact hlt
      have hv : j < vs.length := by rw [fr.len]; exact hm
      obtain ⟨c0, c1, c2⟩ := fr.got j hm hv
      have ho := fr.own j hm hv
      have hfar := fr.far j hv
      rw [mix_at hML hlt hm] at c0 c1 ho
      have hset := mix_set hML hlt (by rw [hML]; exact hlt)
      rw [markF_get k fs j (by rw [hML]; exact hlt) hlt] at hset
      have hmo := sumL_mono fs (show j + 1 ≤ fs.length by omega)
      rw [sumL_next hlt] at hmo
      have hk2 := kAt_next (k := k) hlt
      have hkb : k ≤ kAt k fs j ∧ kAt k fs j ≤ 200000000 := by unfold kAt; omega
      have u0 := (fr.any (j * 3) (by omega)).2
      have u1 := (fr.any (j * 3 + 1) (by omega)).2
      have g0 := fr.g0
      have g1 := fr.g1
      have tp := fr.top
      obtain ⟨K, hK⟩ : ∃ K, kAt k fs j = K := ⟨_, rfl⟩
      rw [hK] at hset hk2 hkb ⊢
      obtain ⟨x, hx⟩ : ∃ x, fs[j] = x := ⟨_, rfl⟩
      rw [hx] at c0 c1 ho hset hmo hk2
      obtain ⟨q, d, xs⟩ := x
      simp only at c0 c1 ho hset hmo hk2
      obtain ⟨va, hva⟩ : ∃ va, vs[j] = va := ⟨_, rfl⟩
      rw [hva] at c2 ho hfar
      have HVA : Hid (vs[j] = va) := hva
      have HSET : Hid ((mix (markF k fs) fs j).set j (K, K + 1, marksI (K + 2) xs.length) = mix (markF k fs) fs (j + 1)) := hset
      have HK2 : Hid (kAt k fs (j + 1) = K + 2 + (xs.length : Int)) := hk2
      have HFR : Hid (FO wr lo hi g fs.length vs (mix (markF k fs) fs j)) := fr
      have hxl : xs.length ≤ 1048576 := by omega
      have hkb0 := hkb.1
      have hkb1 := hkb.2
      obtain ⟨sa, sc, e, hcp, hio⟩ := ho
      subst e
      have hgw : g < wr.heap.size := by omega
      clear hva hx hK hset hk2 fr hkb hmo
      obtain ⟨W2, hW2⟩ : ∃ W2, W2 = (wr.setCell ⟨g, j * 3, none⟩ (.int .i64 K)).setCell ⟨g, j * 3 + 1, none⟩ (.int .i64 (K + 1)) := ⟨_, rfl⟩
      have hWb : ∀ b, b ≠ g → W2.heap[b]? = wr.heap[b]? := fun b hb => by rw [hW2, Below.heap_setCell _ _ _ _ (by exact hb), Below.heap_setCell _ _ _ _ (by exact hb)]
      have hWs : W2.heap.size ≤ wr.heap.size ∧ wr.heap.size ≤ W2.heap.size := by rw [hW2]; simp
      have e0 : W2.cell? ⟨g, j * 3, none⟩ = some (.int .i64 K) := by rw [hW2]; exact (set_other (by omega)).trans (set_same _ c0)
      have e1 : W2.cell? ⟨g, j * 3 + 1, none⟩ = some (.int .i64 (K + 1)) := by rw [hW2]; exact set_same _ ((set_other (by omega)).trans c1)
      have e2 : W2.cell? ⟨g, j * 3 + 2, none⟩ = some (.slice sa xs.length sc) := by rw [hW2]; exact (set_other (by omega)).trans ((set_other (by omega)).trans c2)
      have HOT : Hid (∀ i, i < j * 3 ∨ j * 3 + 2 < i → W2.cell? ⟨g, i, none⟩ = wr.cell? ⟨g, i, none⟩) := fun i hi => by rw [hW2]; exact (set_other (by omega)).trans (set_other (by omega))
      have HFZ : Hid (∀ i, W2.frozen? ⟨g, i, none⟩ = wr.frozen? ⟨g, i, none⟩) := fun i => by rw [hW2, World.frozen?_setCell, World.frozen?_setCell]
      have HIO : Hid (IO W2 lo hi (.slice sa xs.length sc) xs) := IO.same (w := wr) ⟨sa, sc, rfl, hcp, hio⟩ (by omega) (fun b eb => hWb b (fun e' => hfar (by rw [eb, e'])))
      have HWB : Hid (∀ b, b ≠ g → W2.heap[b]? = wr.heap[b]?) := hWb
      clear hWb hio
      have HOI : Hid (OnlyI lo hi w W2) := by rw [hW2]; exact (hO.setCell g0 g1 _).setCell g0 g1 _
      have u2 : (wr.setCell ⟨g, j * 3, none⟩ (.int .i64 K)).frozen? ⟨g, j * 3 + 1, none⟩ = false := by rw [World.frozen?_setCell]; exact u1
      have c1' : (wr.setCell ⟨g, j * 3, none⟩ (.int .i64 K)).cell? ⟨g, j * 3 + 1, none⟩ = some (.int .i64 d) := (set_other (by omega)).trans c1
      go_upto_region 8 with (fail)
      rw [← hW2]
      clear hW2 c0 c1 c2 c1' u0 u1 u2
      go_wp2_with (first | (go_at_call 86; rw [show K + 1 + 1 = K + 2 by omega]; refine (markIO_any (K + 2) HIO.out hxl (by omega) (by omega)).mono ?_; rintro e w3 ⟨rfl, io3, o3⟩))
      have hg3 : elB (.slice sa xs.length sc) ≠ some g := hfar
      have gc : ∀ i, w3.cell? ⟨g, i, none⟩ = W2.cell? ⟨g, i, none⟩ := fun i => o3.cell (p := ⟨g, i, none⟩) (by show g < W2.heap.size; omega) hg3
      have gf : ∀ i, w3.frozen? ⟨g, i, none⟩ = W2.frozen? ⟨g, i, none⟩ := fun i => o3.frozen (p := ⟨g, i, none⟩) (by show g < W2.heap.size; omega) hg3
      have hs3 := o3.size
      have hp := HFR.out.turn (i := j) (q := K) (d := K + 1) (v := .slice sa xs.length sc) (xs := marksI (K + 2) xs.length) (w' := w3) hm hv (by omega) (fun b h1 h2 h3 h4 => (o3.block b (by omega) (by rw [HVA.out] at h4; exact h4)).trans (HWB.out b h3)) (fun i hi => (gc i).trans (HOT.out i hi)) (fun i => (gf i).trans (HFZ.out i)) ((gc _).trans e0) ((gc _).trans e1) ((gc _).trans e2) io3 (fun b e => by rw [HVA.out]; exact e)
      rw [HSET.out] at hp
      have hvs : vs.set j (.slice sa xs.length sc) = vs := by rw [← HVA.out]; exact List.set_getElem_self hv
      rw [hvs] at hp
      go_roundw
      case rel =>
        refine ⟨j + 1, by go_num, by omega, ?_, hp, HOI.out.trans (OnlyI.ofO o3 (fun b e => ⟨(HIO.out.el e).1, (HIO.out.el e).2.1⟩))⟩
        rw [HK2.out]
      case measure => first | (simp [intOf]; done) | (simp [intOf]; omega)
    · have e : j = fs.length := by omega
      subst e
      rw [mix_all hML] at fr
      go_wp2
      go_ret
      exact ⟨rfl, fr, hO⟩
set_option maxHeartbeats 4000000 in
theorem heldPlaces_any {w : World} {lo hi g : Nat} {vs : List Value} {fs : List F8} (cap : Nat) (k : Int) (f : FO w lo hi g fs.length vs (markF k fs)) (hn : fs.length + sumL fs fs.length ≤ 1048576) (k0 : 0 ≤ k) (k1 : k ≤ 100000000) :
    Calls Try.prog 49 #[.slice (some ⟨g, 0, none⟩) fs.length cap, .int .i64 k] w fun e w' => e = .returned (.int .i64 (kAt k fs fs.length)) ∧ w' = w := by
  have hML := markF_length k fs
  have hni : (fs.length : Int) ≤ 1048576 := by omega
  go_enter Try.func49, Try.ntmps49
  go_wp2
  go_loop [1, 5] (fun s i => ∃ j : Nat, i = .int .i64 j ∧ j ≤ fs.length ∧ s = .int .i64 (kAt k fs j)) (fun _ i => fs.length - (intOf i).toNat)
  case atStart => exact ⟨0, rfl, by omega, by show _ = Value.int .i64 (k + 2 * (0 : Int) + (0 : Int)); congr 1; omega⟩
  case round =>
    obtain ⟨j, rfl, hj, rfl⟩ := hrel
    by_cases hlt : j < fs.length
    · have hlt' : (j : Int) < (fs.length : Int) := by omega
      have hm : j < (markF k fs).length := by rw [hML]; exact hlt
      have hv : j < vs.length := by rw [f.len]; exact hm
      obtain ⟨c0, c1, c2⟩ := f.got j hm hv
      have ho := f.own j hm hv
      rw [markF_get k fs j hm hlt] at c0 c1 ho
      have hmo := sumL_mono fs (show j + 1 ≤ fs.length by omega)
      rw [sumL_next hlt] at hmo
      have hk2 := kAt_next (k := k) hlt
      have hkb : k ≤ kAt k fs j ∧ kAt k fs j ≤ 200000000 := by unfold kAt; omega
      obtain ⟨K, hK⟩ : ∃ K, kAt k fs j = K := ⟨_, rfl⟩
      rw [hK] at hk2 hkb c0 c1 ho ⊢
      obtain ⟨xs, hx⟩ : ∃ xs, fs[j].2.2 = xs := ⟨_, rfl⟩
      rw [hx] at ho hmo hk2
      simp only at c0 c1 ho
      obtain ⟨va, hva⟩ : ∃ va, vs[j] = va := ⟨_, rfl⟩
      rw [hva] at c2 ho
      have HK2 : Hid (kAt k fs (j + 1) = K + 2 + (xs.length : Int)) := hk2
      have hxl : xs.length ≤ 1048576 := by omega
      have hkb0 := hkb.1
      have hkb1 := hkb.2
      have hpos : ¬ (K + 2 + (xs.length : Int) < 0) := by omega
      clear hva hx hK hk2 hkb hmo
      go_wp2_with (first | (go_at_call 89; rw [show K + 1 + 1 = K + 2 by omega]; refine (heldIO_any (K + 2) ho hxl (by omega) (by omega)).mono ?_; rintro e w3 ⟨rfl, rfl⟩))
      go_round
      case rel => exact ⟨j + 1, by go_num, by omega, by rw [HK2.out]⟩
      case measure => first | (simp [intOf]; done) | (simp [intOf]; omega)
    · have e : j = fs.length := by omega
      subst e
      go_wp2
      go_ret
      exact ⟨rfl, rfl⟩
theorem markPNil_any (a : Option Addr) (cap : Nat) (k : Int) (w : World) (k0 : 0 ≤ k) (k1 : k ≤ 1000000000) : Calls Try.prog 46 #[.slice a 0 cap, .int .i64 k] w fun e w' => e = .returned (.int .i64 k) ∧ w' = w := by
  go_enter Try.func46, Try.ntmps46
  go_wp2
  refine wp_loop_rounds 1 ?_
  rw [rounds_succ]
  go_wp2
  go_ret
  exact ⟨rfl, rfl⟩
theorem heldPNil_any (a : Option Addr) (cap : Nat) (k : Int) (w : World) (k0 : 0 ≤ k) (k1 : k ≤ 1000000000) : Calls Try.prog 49 #[.slice a 0 cap, .int .i64 k] w fun e w' => e = .returned (.int .i64 k) ∧ w' = w := by
  go_enter Try.func49, Try.ntmps49
  go_wp2
  refine wp_loop_rounds 1 ?_
  rw [rounds_succ]
  go_wp2
  go_ret
  exact ⟨rfl, rfl⟩
theorem markPV_any {w : World} {lo hi n c : Nat} {a : Option Addr} {fs : List F8} (k : Int) (h : TV w lo hi (.slice a n c) fs) (hn : fs.length + sumL fs fs.length ≤ 1048576) (k0 : 0 ≤ k) (k1 : k ≤ 100000000) :
    Calls Try.prog 46 #[.slice a n c, .int .i64 k] w fun e w' => e = .returned (.int .i64 (kAt k fs fs.length)) ∧ TV w' lo hi (.slice a n c) (markF k fs) ∧ OnlyI lo hi w w' := by
  rcases h with ⟨g, cap, vs, e, hc, f⟩ | ⟨rfl, a', c', e⟩
  · injection e with e1 e2 e3
    subst e1 e2 e3
    refine (markPlaces_any c k f hn k0 k1).mono ?_
    rintro e w' ⟨rfl, f', o'⟩
    exact ⟨rfl, .inl ⟨g, c, vs, by rw [markF_length], by rw [markF_length]; exact hc, by rw [markF_length]; exact f'⟩, o'⟩
  · injection e with e1 e2 e3
    subst e1 e2 e3
    refine (markPNil_any a c k w k0 (by omega)).mono ?_
    rintro e w' ⟨rfl, rfl⟩
    exact ⟨by rw [List.length_nil, kAt_nil], TV.zero _ _ _ _ _, OnlyI.refl _ _ _⟩
theorem heldPV_any {w : World} {lo hi n c : Nat} {a : Option Addr} {fs : List F8} (k : Int) (h : TV w lo hi (.slice a n c) (markF k fs)) (hn : fs.length + sumL fs fs.length ≤ 1048576) (k0 : 0 ≤ k) (k1 : k ≤ 100000000) :
    Calls Try.prog 49 #[.slice a n c, .int .i64 k] w fun e w' => e = .returned (.int .i64 (kAt k fs fs.length)) ∧ w' = w := by
  have hl := markF_length k fs
  rcases h with ⟨g, cap, vs, e, hc, f⟩ | ⟨e0, a', c', e⟩
  · injection e with e1 e2 e3
    rw [hl] at e2 f
    subst e1 e2 e3
    exact heldPlaces_any c k f hn k0 k1
  · rw [e0] at hl
    have h0 : fs = [] := List.eq_nil_of_length_eq_zero hl.symm
    subst h0
    injection e with e1 e2 e3
    subst e1 e2 e3
    refine (heldPNil_any a c k w k0 (by omega)).mono ?_
    rintro e w' ⟨rfl, rfl⟩
    exact ⟨by rw [List.length_nil, kAt_nil], rfl⟩
end Go.Proofs.Ytibfclfidaofkas

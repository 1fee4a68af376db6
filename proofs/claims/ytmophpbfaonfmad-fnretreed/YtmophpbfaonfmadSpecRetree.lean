/- What spec.Retree answers. -/
import Derived.Test.YtmophpbfaonfmadImplRetree
import Derived.Test.YtmophpbfaonfmadImplPay
import Derived.Test.YtmophpbfaonfmadGrpO
namespace Go.Proofs.Ytmophpbfaonfmad
open Go.ChangeShapes Go.WideShapes Go.ChangeAt Go.RowKit
set_option maxRecDepth 100000
set_option linter.unusedVariables false
set_option linter.unusedSimpArgs false

theorem sReset_is {b : Q4} {now r u y1 y2 y3 y4 : Int} (h : resetQ now r u b = (y1, y2, y3, y4)) (w : World) : Calls Try.prog 68 #[.agg #[.int .i64 b.1, .int .i64 b.2.1, .int .i64 b.2.2.1, .int .i64 b.2.2.2], .int .i64 r, .int .i64 u, .int .i64 now] w fun e w' => e = .returned (.agg #[.int .i64 y1, .int .i64 y2, .int .i64 y3, .int .i64 y4]) ∧ Below w.heap.size w w' := by
  have k := specReset_any b.1 b.2.1 b.2.2.1 b.2.2.2 r u now w
  unfold resetQ at h
  rw [h] at k
  exact k
/-- What came in, the answer's place, the copy in a variable, its three rows. -/
structure RtSt (w W : World) (b2 : Nat) (sT sO sP : Value) (gS cS gO cO gP cP : Nat) (S X Y : List Q4) : Prop where
  kept : Kept w [(w.heap.size, 0, sT), (w.heap.size, 1, sO), (w.heap.size, 2, sP), (w.heap.size + 1, 0, .slice none 0 0), (w.heap.size + 1, 1, .slice none 0 0), (w.heap.size + 1, 2, .slice none 0 0), (b2, 0, .slice (some ⟨gS, 0, none⟩) S.length cS), (b2, 1, .slice (some ⟨gO, 0, none⟩) X.length cO), (b2, 2, .slice (some ⟨gP, 0, none⟩) Y.length cP)] [w.heap.size + 1] W
  fS : QFill W gS S.length S S.length
  fO : QFill W gO X.length X X.length
  fP : QFill W gP Y.length Y Y.length
  zS : gS < W.heap.size
  zO : gO < W.heap.size
  zP : gP < W.heap.size
structure Rt3 (w : World) (b2 gS gO gP : Nat) : Prop where
  lb : w.heap.size + 2 ≤ b2
  lS : w.heap.size + 2 ≤ gS
  lO : w.heap.size + 2 ≤ gO
  lP : w.heap.size + 2 ≤ gP
  nO : gO ≠ b2
  nP : gP ≠ b2
  so : gS ≠ gO
  sp : gS ≠ gP
  oP : gO ≠ gP
section
variable {w W : World} {b2 : Nat} {sT sO sP : Value} {gS cS gO cO gP cP : Nat} {S X Y : List Q4}
theorem RtSt.next (d : RtSt w W b2 sT sO sP gS cS gO cO gP cP S X Y) (r : Rt3 w b2 gS gO gP) {W' : World} (h : Below W.heap.size W W') : RtSt w W' b2 sT sO sP gS cS gO cO gP cP S X Y :=
  ⟨d.kept.next h, d.fS.mono h d.zS, d.fO.mono h d.zO, d.fP.mono h d.zP, Nat.lt_of_lt_of_le d.zS h.size, Nat.lt_of_lt_of_le d.zO h.size, Nat.lt_of_lt_of_le d.zP h.size⟩
theorem RtSt.keeps (d : RtSt w W b2 sT sO sP gS cS gO cO gP cP S X Y) {g : Nat} (hg : w.heap.size + 2 ≤ g) (hb : g ≠ b2) (o : Nat) (q : Q4) : Kept w [(w.heap.size, 0, sT), (w.heap.size, 1, sO), (w.heap.size, 2, sP), (w.heap.size + 1, 0, .slice none 0 0), (w.heap.size + 1, 1, .slice none 0 0), (w.heap.size + 1, 2, .slice none 0 0), (b2, 0, .slice (some ⟨gS, 0, none⟩) S.length cS), (b2, 1, .slice (some ⟨gO, 0, none⟩) X.length cO), (b2, 2, .slice (some ⟨gP, 0, none⟩) Y.length cP)] [w.heap.size + 1] (putQ W g o q) := by
  refine d.kept.onlyO (OnlyO.of_grown (putQ_grown W g o q)) (fun j e => by have e1 : g = j := Option.some.inj e; omega) (fun c hc e => ?_) (fun b hb' e => ?_)
  · have e1 : g = c.1 := Option.some.inj e
    simp only [List.mem_cons, List.not_mem_nil, or_false] at hc
    rcases hc with rfl | rfl | rfl | rfl | rfl | rfl | rfl | rfl | rfl <;> simp only at e1 <;> omega
  · have e1 : g = b := Option.some.inj e
    simp only [List.mem_cons, List.not_mem_nil, or_false] at hb'
    omega
theorem RtSt.putO (d : RtSt w W b2 sT sO sP gS cS gO cO gP cP S X Y) (r : Rt3 w b2 gS gO gP) {k : Nat} (hk : k < X.length) (q : Q4) : RtSt w (putQ W gO (k * 4) q) b2 sT sO sP gS cS gO cO gP cP S (X.set k q) Y := by
  have hg := OnlyO.of_grown (putQ_grown W gO (k * 4) q)
  refine ⟨by rw [List.length_set]; exact d.keeps r.lO r.nO _ _, d.fS.onlyO hg d.zS (fun e => r.so (Option.some.inj e).symm), by rw [List.length_set]; exact d.fO.mod hk q, d.fP.onlyO hg d.zP (fun e => r.oP (Option.some.inj e)), by rw [putQ_size]; exact d.zS, by rw [putQ_size]; exact d.zO, by rw [putQ_size]; exact d.zP⟩
theorem RtSt.putP (d : RtSt w W b2 sT sO sP gS cS gO cO gP cP S X Y) (r : Rt3 w b2 gS gO gP) {k : Nat} (hk : k < Y.length) (q : Q4) : RtSt w (putQ W gP (k * 4) q) b2 sT sO sP gS cS gO cO gP cP S X (Y.set k q) := by
  have hg := OnlyO.of_grown (putQ_grown W gP (k * 4) q)
  refine ⟨by rw [List.length_set]; exact d.keeps r.lP r.nP _ _, d.fS.onlyO hg d.zS (fun e => r.sp (Option.some.inj e).symm), d.fO.onlyO hg d.zO (fun e => r.oP (Option.some.inj e).symm), by rw [List.length_set]; exact d.fP.mod hk q, by rw [putQ_size]; exact d.zS, by rw [putQ_size]; exact d.zO, by rw [putQ_size]; exact d.zP⟩
theorem fill_at {g k : Nat} {X : List Q4} (f : QFill W g X.length X X.length) (hk : k < X.length) : (W.cell? ⟨g, k * 4, none⟩ = some (.int .i64 X[k].1) ∧ W.cell? ⟨g, k * 4 + 1, none⟩ = some (.int .i64 X[k].2.1) ∧ W.cell? ⟨g, k * 4 + 2, none⟩ = some (.int .i64 X[k].2.2.1) ∧ W.cell? ⟨g, k * 4 + 3, none⟩ = some (.int .i64 X[k].2.2.2)) ∧ W.frozen? ⟨g, k * 4, none⟩ = false ∧ W.frozen? ⟨g, k * 4 + 1, none⟩ = false ∧ W.frozen? ⟨g, k * 4 + 2, none⟩ = false ∧ W.frozen? ⟨g, k * 4 + 3, none⟩ = false :=
  ⟨f.got k hk hk, (f.any _ (by omega)).2, (f.any _ (by omega)).2, (f.any _ (by omega)).2, (f.any _ (by omega)).2⟩
end
/-- The first k are reset. -/
def mixR (Z O : List Q4) (k : Nat) : List Q4 := Z.take k ++ O.drop k
theorem mixR_zero (Z O : List Q4) : O = mixR Z O 0 := by simp [mixR]
theorem mixR_length {Z O : List Q4} (hl : Z.length = O.length) (k : Nat) (h : k ≤ O.length) : (mixR Z O k).length = O.length := by
  unfold mixR
  rw [List.length_append, List.length_take, List.length_drop]
  omega
theorem mixR_set {Z O : List Q4} (hl : Z.length = O.length) {k : Nat} (h : k < O.length) (hz : k < Z.length) : (mixR Z O k).set k Z[k] = mixR Z O (k + 1) := by
  unfold mixR
  rw [List.drop_eq_getElem_cons h, List.take_succ_eq_append_getElem hz, List.append_assoc, List.set_append_right _ _ (by rw [List.length_take]; omega)]
  congr 1
  rw [List.length_take, Nat.min_eq_left (Nat.le_of_lt hz), Nat.sub_self]
  rfl
theorem own_rowQ {w : World} {base g n cap : Nat} {t : TypeId} {xs : List Q4} (h : w.ownsRow base t 4 (.slice (some ⟨g, 0, none⟩) n cap) xs.length (flatQ xs)) : QFill w g xs.length xs xs.length ∧ xs.length ≤ cap := by
  obtain ⟨g', cap', e, _, _, f, hc⟩ := own_quads h (fun e => by injection e with e1; cases e1)
  injection e with e1 e2 e3
  have e1 := congrArg (·.block) (Option.some.inj e1)
  simp only at e1
  subst e1 e3
  exact ⟨f, hc⟩
set_option maxHeartbeats 8000000 in
theorem specRetree_no {w : World} {aT aO aP aS : Option Addr} (cT cO cP cS : Nat) {T O P S : List Q4} (now : Int) (hT : Quad w.heap.size w aT T) (hO : Quad w.heap.size w aO O) (hP : Quad w.heap.size w aP P) (hS : Quad w.heap.size w aS S) (hm : movB T O P S now = false) : Calls Try.prog 17 #[lendV aT T.length cT aO O.length cO aP P.length cP, .slice aS S.length cS, .int .i64 now] w (NewPost w [] [] [] false) := by
  have nb : Below w.heap.size w ((w.alloc (.cells #[.slice aT T.length cT, .slice aO O.length cO, .slice aP P.length cP] 27)).alloc (.cells #[.slice none 0 0, .slice none 0 0, .slice none 0 0] 27)) := by go_grown
  have KW : Hid (Kept w [(w.heap.size, 0, .slice aT T.length cT), (w.heap.size, 1, .slice aO O.length cO), (w.heap.size, 2, .slice aP P.length cP), (w.heap.size + 1, 0, .slice none 0 0), (w.heap.size + 1, 1, .slice none 0 0), (w.heap.size + 1, 2, .slice none 0 0)] [w.heap.size + 1] ((w.alloc (.cells #[.slice aT T.length cT, .slice aO O.length cO, .slice aP P.length cP] 27)).alloc (.cells #[.slice none 0 0, .slice none 0 0, .slice none 0 0] 27))) :=
    ⟨⟨⟨by simp <;> omega, by go_simp⟩, ⟨by simp <;> omega, by go_simp⟩, ⟨by simp <;> omega, by go_simp⟩, ⟨by simp, by go_simp⟩, ⟨by simp, by go_simp⟩, ⟨by simp, by go_simp⟩, trivial⟩,
     (fun b hb => by simp only [List.mem_cons, List.not_mem_nil, or_false] at hb; subst hb; exact ⟨by simp, fun o => by go_simp⟩), by go_grown⟩
  cases hl : lendB T O P
  · clear hm
    go_enter Try.func17, Try.ntmps17
    go_wp2_with (first | (go_at_call 65; refine (specLendOk_is cT cO cP hl (hT.here nb) (hO.here nb) (hP.here nb)).mono ?_; rintro e w2 ⟨rfl, hb2⟩; have hb2w := below_step nb hb2; have K2 : Hid (Kept w _ _ w2) := KW.out.next hb2; have ⟨⟨_, k0⟩, ⟨_, k1⟩, ⟨_, k2⟩, ⟨_, k3⟩, ⟨_, k4⟩, ⟨_, k5⟩, _⟩ := K2.out.cells; have fr := (K2.out.free (w.heap.size + 1) (List.mem_singleton.2 rfl)).2))
    refine bodyPost_ret (results_two rfl _ _ _ [.slice none 0 0, .slice none 0 0, .slice none 0 0] rfl (set_three (u0 := .slice none 0 0) (u1 := .slice none 0 0) (u2 := .slice none 0 0) _ _ _ k3 k4 k5) Try.underlying27 rfl (by kernel_rfl)) rfl ?_
    exact ⟨_, _, _, _, _, _, _, _, _, rfl, LV.zero _ _, ((hb2w.setCell (by simp) _).setCell (by simp) _).setCell (by simp) _⟩
  by_cases hc : treeCode S = 0
  rotate_left
  · have hc' : (treeCode S == 0) = false := by simp [hc]
    clear hm
    go_enter Try.func17, Try.ntmps17
    go_wp2_with (first | (go_at_call 65; refine (specLendOk_is cT cO cP hl (hT.here nb) (hO.here nb) (hP.here nb)).mono ?_; rintro e w2 ⟨rfl, hb2⟩; have hb2w := below_step nb hb2; have K2 : Hid (Kept w _ _ w2) := KW.out.next hb2; have ⟨⟨_, k0⟩, ⟨_, k1⟩, ⟨_, k2⟩, ⟨_, k3⟩, ⟨_, k4⟩, ⟨_, k5⟩, _⟩ := K2.out.cells; have fr := (K2.out.free (w.heap.size + 1) (List.mem_singleton.2 rfl)).2) | (go_at_call 66; refine (specTree_any cS (hS.here hb2w)).mono ?_; rintro e w4 ⟨rfl, hb4⟩; have hb4w := below_step hb2w hb4; have K4 : Hid (Kept w _ _ w4) := K2.out.next hb4; have ⟨⟨_, k0⟩, ⟨_, k1⟩, ⟨_, k2⟩, ⟨_, k3⟩, ⟨_, k4⟩, ⟨_, k5⟩, _⟩ := K4.out.cells; have fr := (K4.out.free (w.heap.size + 1) (List.mem_singleton.2 rfl)).2))
    refine bodyPost_ret (results_two rfl _ _ _ [.slice none 0 0, .slice none 0 0, .slice none 0 0] rfl (set_three (u0 := .slice none 0 0) (u1 := .slice none 0 0) (u2 := .slice none 0 0) _ _ _ k3 k4 k5) Try.underlying27 rfl (by kernel_rfl)) rfl ?_
    exact ⟨_, _, _, _, _, _, _, _, _, rfl, LV.zero _ _, ((hb4w.setCell (by simp) _).setCell (by simp) _).setCell (by simp) _⟩
  by_cases hls : S.length = T.length
  rotate_left
  · have hls' : ((S.length : Int) == (T.length : Int)) = false := by rw [beq_eq_false_iff_ne]; omega
    clear hm
    go_enter Try.func17, Try.ntmps17
    go_wp2_with (first | (go_at_call 65; refine (specLendOk_is cT cO cP hl (hT.here nb) (hO.here nb) (hP.here nb)).mono ?_; rintro e w2 ⟨rfl, hb2⟩; have hb2w := below_step nb hb2; have K2 : Hid (Kept w _ _ w2) := KW.out.next hb2; have ⟨⟨_, k0⟩, ⟨_, k1⟩, ⟨_, k2⟩, ⟨_, k3⟩, ⟨_, k4⟩, ⟨_, k5⟩, _⟩ := K2.out.cells; have fr := (K2.out.free (w.heap.size + 1) (List.mem_singleton.2 rfl)).2) | (go_at_call 66; refine (specTree_is cS hc (hS.here hb2w)).mono ?_; rintro e w4 ⟨rfl, hb4⟩; have hb4w := below_step hb2w hb4; have K4 : Hid (Kept w _ _ w4) := K2.out.next hb4; have ⟨⟨_, k0⟩, ⟨_, k1⟩, ⟨_, k2⟩, ⟨_, k3⟩, ⟨_, k4⟩, ⟨_, k5⟩, _⟩ := K4.out.cells; have fr := (K4.out.free (w.heap.size + 1) (List.mem_singleton.2 rfl)).2))
    refine bodyPost_ret (results_two rfl _ _ _ [.slice none 0 0, .slice none 0 0, .slice none 0 0] rfl (set_three (u0 := .slice none 0 0) (u1 := .slice none 0 0) (u2 := .slice none 0 0) _ _ _ k3 k4 k5) Try.underlying27 rfl (by kernel_rfl)) rfl ?_
    exact ⟨_, _, _, _, _, _, _, _, _, rfl, LV.zero _ _, ((hb4w.setCell (by simp) _).setCell (by simp) _).setCell (by simp) _⟩
  have HL := lend_of hl
  have HLT : Hid (T.length = S.length) := hls.symm
  have h0O : 0 < O.length := by have := HL.tree.l0; have := HL.lo; omega
  obtain ⟨A, hA⟩ : ∃ A, O[0].2.2.2 = A := ⟨_, rfl⟩
  have HA : atOf O = A := by
    unfold atOf
    rw [List.getElem?_eq_getElem h0O, ← hA]
  obtain ⟨bo, oo, rfl, hbo, qA0⟩ := hO 0 h0O
  have qA : w.cell? ⟨bo, oo + 3, none⟩ = some (.int .i64 A) := by rw [← hA]; simpa using qA0.2.2.2
  have h0i : (0 : Int) < (O.length : Int) := by omega
  have hnt := now_time (now := now) HL
  have hm2 : (timeB now && decide (A ≤ now)) = false := by
    have h := hm
    unfold movB at h
    rw [hl, decide_eq_true hc, decide_eq_true hls, ← hnt, HA] at h
    exact h
  have hlt := specLendOk_is cT cO cP hl (hT.here nb) (hO.here nb) (hP.here nb)
  clear hA qA0 HL hnt hm HA
  rw [HLT.out] at KW nb hlt ⊢
  clear hls
  cases ht : timeB now
  · clear hm2
    go_enter Try.func17, Try.ntmps17
    go_wp2_with (first | (go_at_call 65; refine hlt.mono ?_; clear hlt; rintro e w2 ⟨rfl, hb2⟩; have hb2w := below_step nb hb2; have K2 : Hid (Kept w _ _ w2) := KW.out.next hb2; have ⟨⟨_, k0⟩, ⟨_, k1⟩, ⟨_, k2⟩, ⟨_, k3⟩, ⟨_, k4⟩, ⟨_, k5⟩, _⟩ := K2.out.cells; have fr := (K2.out.free (w.heap.size + 1) (List.mem_singleton.2 rfl)).2) | (go_at_call 66; refine (specTree_is cS hc (hS.here hb2w)).mono ?_; rintro e w4 ⟨rfl, hb4⟩; have hb4w := below_step hb2w hb4; have K4 : Hid (Kept w _ _ w4) := K2.out.next hb4; have ⟨⟨_, k0⟩, ⟨_, k1⟩, ⟨_, k2⟩, ⟨_, k3⟩, ⟨_, k4⟩, ⟨_, k5⟩, _⟩ := K4.out.cells; have fr := (K4.out.free (w.heap.size + 1) (List.mem_singleton.2 rfl)).2) | (go_at_call 59; refine (sTime_is ht _).mono ?_; rintro e w5 ⟨rfl, h5⟩; have h5 := h5.symm; subst h5))
    refine bodyPost_ret (results_two rfl _ _ _ [.slice none 0 0, .slice none 0 0, .slice none 0 0] rfl (set_three (u0 := .slice none 0 0) (u1 := .slice none 0 0) (u2 := .slice none 0 0) _ _ _ k3 k4 k5) Try.underlying27 rfl (by kernel_rfl)) rfl ?_
    exact ⟨_, _, _, _, _, _, _, _, _, rfl, LV.zero _ _, ((hb4w.setCell (by simp) _).setCell (by simp) _).setCell (by simp) _⟩
  · have hlt2 : now < A := by rw [ht, Bool.true_and] at hm2; have := of_decide_eq_false hm2; omega
    clear hm2
    go_enter Try.func17, Try.ntmps17
    go_wp2_with (first | (go_at_call 65; refine hlt.mono ?_; clear hlt; rintro e w2 ⟨rfl, hb2⟩; have hb2w := below_step nb hb2; have K2 : Hid (Kept w _ _ w2) := KW.out.next hb2; have ⟨⟨_, k0⟩, ⟨_, k1⟩, ⟨_, k2⟩, ⟨_, k3⟩, ⟨_, k4⟩, ⟨_, k5⟩, _⟩ := K2.out.cells; have fr := (K2.out.free (w.heap.size + 1) (List.mem_singleton.2 rfl)).2) | (go_at_call 66; refine (specTree_is cS hc (hS.here hb2w)).mono ?_; rintro e w4 ⟨rfl, hb4⟩; have hb4w := below_step hb2w hb4; have K4 : Hid (Kept w _ _ w4) := K2.out.next hb4; have ⟨⟨_, k0⟩, ⟨_, k1⟩, ⟨_, k2⟩, ⟨_, k3⟩, ⟨_, k4⟩, ⟨_, k5⟩, _⟩ := K4.out.cells; have fr := (K4.out.free (w.heap.size + 1) (List.mem_singleton.2 rfl)).2; have qA4 := (hb4w.cell (p := ⟨bo, oo + 3, none⟩) hbo).trans qA) | (go_at_call 59; refine (sTime_is ht _).mono ?_; rintro e w5 ⟨rfl, h5⟩; have h5 := h5.symm; subst h5))
    refine bodyPost_ret (results_two rfl _ _ _ [.slice none 0 0, .slice none 0 0, .slice none 0 0] rfl (set_three (u0 := .slice none 0 0) (u1 := .slice none 0 0) (u2 := .slice none 0 0) _ _ _ k3 k4 k5) Try.underlying27 rfl (by kernel_rfl)) rfl ?_
    exact ⟨_, _, _, _, _, _, _, _, _, rfl, LV.zero _ _, ((hb4w.setCell (by simp) _).setCell (by simp) _).setCell (by simp) _⟩
set_option maxHeartbeats 16000000 in
theorem specRetree_yes {w : World} {aT aO aP aS : Option Addr} (cT cO cP cS : Nat) {T O P S : List Q4} (now : Int) (hT : Quad w.heap.size w aT T) (hO : Quad w.heap.size w aO O) (hP : Quad w.heap.size w aP P) (hS : Quad w.heap.size w aS S) (hm : movB T O P S now = true) : Calls Try.prog 17 #[lendV aT T.length cT aO O.length cO aP P.length cP, .slice aS S.length cS, .int .i64 now] w (NewPost w S (movO S O now) (movP S P now) true) := by
  have hm' := hm
  unfold movB at hm'
  rw [Bool.and_eq_true, Bool.and_eq_true, Bool.and_eq_true] at hm'
  have hl := hm'.1.1.1
  have hc := of_decide_eq_true hm'.1.1.2
  have hls := of_decide_eq_true hm'.1.2
  have hn := hm'.2
  have HL := lend_of hl
  have HLO : Hid (O.length = S.length) := HL.lo.trans hls.symm
  have HLP : Hid (P.length = S.length) := HL.lp.trans hls.symm
  have HLT : Hid (T.length = S.length) := hls.symm
  have htr := tree_of hc
  have h30 := htr.l1
  have h01 := htr.l0
  have h0O : 0 < O.length := by have := HLO.out; omega
  have h0P : 0 < P.length := by have := HLP.out; omega
  have hTi : (S.length : Int) ≤ 30 := by omega
  have hT0 : (0 : Int) < (S.length : Int) := by omega
  obtain ⟨A, hA⟩ : ∃ A, O[0].2.2.2 = A := ⟨_, rfl⟩
  have HA : atOf O = A := by
    unfold atOf
    rw [List.getElem?_eq_getElem h0O, ← hA]
  rw [← now_time HL, HA, Bool.and_eq_true] at hn
  have ht : timeB now = true := hn.1
  have hAn : A ≤ now := of_decide_eq_true hn.2
  obtain ⟨bo, oo, rfl, hbo, qA0⟩ := hO 0 h0O
  obtain ⟨bp, op, rfl, hbp, -⟩ := hP 0 h0P
  obtain ⟨bs, os, rfl, hbs, -⟩ := hS 0 h01
  have qA : w.cell? ⟨bo, oo + 3, none⟩ = some (.int .i64 A) := by rw [← hA]; simpa using qA0.2.2.2
  have nb : Below w.heap.size w ((w.alloc (.cells #[.slice aT S.length cT, .slice (some ⟨bo, oo, none⟩) S.length cO, .slice (some ⟨bp, op, none⟩) S.length cP] 27)).alloc (.cells #[.slice none 0 0, .slice none 0 0, .slice none 0 0] 27)) := by go_grown
  have KW : Hid (Kept w [(w.heap.size, 0, .slice aT S.length cT), (w.heap.size, 1, .slice (some ⟨bo, oo, none⟩) S.length cO), (w.heap.size, 2, .slice (some ⟨bp, op, none⟩) S.length cP), (w.heap.size + 1, 0, .slice none 0 0), (w.heap.size + 1, 1, .slice none 0 0), (w.heap.size + 1, 2, .slice none 0 0)] [w.heap.size + 1] ((w.alloc (.cells #[.slice aT S.length cT, .slice (some ⟨bo, oo, none⟩) S.length cO, .slice (some ⟨bp, op, none⟩) S.length cP] 27)).alloc (.cells #[.slice none 0 0, .slice none 0 0, .slice none 0 0] 27))) :=
    ⟨⟨⟨by simp <;> omega, by go_simp⟩, ⟨by simp <;> omega, by go_simp⟩, ⟨by simp <;> omega, by go_simp⟩, ⟨by simp, by go_simp⟩, ⟨by simp, by go_simp⟩, ⟨by simp, by go_simp⟩, trivial⟩,
     (fun b hb => by simp only [List.mem_cons, List.not_mem_nil, or_false] at hb; subst hb; exact ⟨by simp, fun o => by go_simp⟩), by go_grown⟩
  have hlt := specLendOk_is (w := (w.alloc (.cells #[.slice aT S.length cT, .slice (some ⟨bo, oo, none⟩) S.length cO, .slice (some ⟨bp, op, none⟩) S.length cP] 27)).alloc (.cells #[.slice none 0 0, .slice none 0 0, .slice none 0 0] 27)) cT cO cP hl (hT.here nb) (hO.here nb) (hP.here nb)
  rw [HLO.out, HLP.out, HLT.out] at hlt
  have hcp : Hid (∀ {W : World}, Quad W.heap.size W aT T → Quad W.heap.size W (some ⟨bo, oo, none⟩) O → Quad W.heap.size W (some ⟨bp, op, none⟩) P → Calls Try.prog 67 #[lendV aT S.length cT (some ⟨bo, oo, none⟩) S.length cO (some ⟨bp, op, none⟩) S.length cP] W (CpPost W T O P)) := fun a b c => (by have h := l7Copy_any cT cO cP a b c (by have := HLT.out; omega) (by have := HLO.out; omega) (by have := HLP.out; omega); rw [HLO.out, HLP.out, HLT.out] at h; exact h)
  rw [HLO.out, HLP.out, HLT.out]
  clear hm hm' hls hl hA qA0 HL htr hn HA
  obtain ⟨iC, hiC, zC0, zC1, zC2⟩ := info_parts info_class
  have zW : ((w.alloc (.cells #[.slice aT S.length cT, .slice (some ⟨bo, oo, none⟩) S.length cO, .slice (some ⟨bp, op, none⟩) S.length cP] 27)).alloc (.cells #[.slice none 0 0, .slice none 0 0, .slice none 0 0] 27)).heap.size = w.heap.size + 2 := by simp
  go_enter Try.func17, Try.ntmps17
  go_upto_region 4 with (first | (go_at_call 65; refine hlt.mono ?_; clear hlt; rintro e w2 ⟨rfl, hb2⟩; have hb2w := below_step nb hb2; have K2 : Hid (Kept w _ _ w2) := KW.out.next hb2; have ⟨⟨_, k0⟩, ⟨_, k1⟩, ⟨_, k2⟩, ⟨_, k3⟩, ⟨_, k4⟩, ⟨_, k5⟩, _⟩ := K2.out.cells; have fr := (K2.out.free (w.heap.size + 1) (List.mem_singleton.2 rfl)).2) | (go_at_call 66; refine (specTree_is cS hc (hS.here hb2w)).mono ?_; rintro e w4 ⟨rfl, hb4⟩; have hb4w := below_step hb2w hb4; have K4 : Hid (Kept w _ _ w4) := K2.out.next hb4; have ⟨⟨_, k0⟩, ⟨_, k1⟩, ⟨_, k2⟩, ⟨_, k3⟩, ⟨_, k4⟩, ⟨_, k5⟩, _⟩ := K4.out.cells; have fr := (K4.out.free (w.heap.size + 1) (List.mem_singleton.2 rfl)).2; have qA4 := (hb4w.cell (p := ⟨bo, oo + 3, none⟩) hbo).trans qA) | (go_at_call 59; refine (sTime_is ht _).mono ?_; rintro e w5 ⟨rfl, h5⟩; have h5 := h5.symm; subst h5) | (go_at_call 67; refine (hcp.out (hT.here hb4w) (hO.here hb4w) (hP.here hb4w)).mono ?_; rintro e w6 ⟨gT, dT, gO, dO, gP, dP, rfl, r1, r2, r3', hap, hb6⟩))
  have z4 : w.heap.size + 2 ≤ w4.heap.size := by have := hb2.size; have := hb4.size; omega
  have z6 := hb6.size
  have uO := r2.lt gO rfl
  have uP := r3'.lt gP rfl
  have fO6 := own_rowQ r2
  have fP6 := own_rowQ r3'
  rw [HLO.out, HLP.out, HLT.out]
  have K7 := (K4.out.next hb6).next (new_below w6 (.cells #[.slice (some ⟨gT, 0, none⟩) S.length dT, .slice (some ⟨gO, 0, none⟩) S.length dO, .slice (some ⟨gP, 0, none⟩) S.length dP] 27))
  have K9 : Hid (Kept w [(w.heap.size, 0, .slice aT S.length cT), (w.heap.size, 1, .slice (some ⟨bo, oo, none⟩) S.length cO), (w.heap.size, 2, .slice (some ⟨bp, op, none⟩) S.length cP), (w.heap.size + 1, 0, .slice none 0 0), (w.heap.size + 1, 1, .slice none 0 0), (w.heap.size + 1, 2, .slice none 0 0), (w6.heap.size, 0, .slice (some ⟨gT, 0, none⟩) S.length dT), (w6.heap.size, 1, .slice (some ⟨gO, 0, none⟩) S.length dO), (w6.heap.size, 2, .slice (some ⟨gP, 0, none⟩) S.length dP)] [w.heap.size + 1, w6.heap.size] (w6.alloc (.cells #[.slice (some ⟨gT, 0, none⟩) S.length dT, .slice (some ⟨gO, 0, none⟩) S.length dO, .slice (some ⟨gP, 0, none⟩) S.length dP] 27))) := by
    obtain ⟨⟨e0, e1, e2, e3, e4, e5, _⟩, hf, hbb⟩ := K7
    exact ⟨⟨e0, e1, e2, e3, e4, e5, ⟨by simp, by go_simp⟩, ⟨by simp, by go_simp⟩, ⟨by simp, by go_simp⟩, trivial⟩, (fun b hb => by simp only [List.mem_cons, List.not_mem_nil, or_false] at hb; rcases hb with rfl | rfl; exact hf _ (List.mem_singleton.2 rfl); exact ⟨by simp, fun o => by go_simp⟩), hbb⟩
  have fO7 := fO6.1.mono (new_below w6 (.cells #[.slice (some ⟨gT, 0, none⟩) S.length dT, .slice (some ⟨gO, 0, none⟩) S.length dO, .slice (some ⟨gP, 0, none⟩) S.length dP] 27)) uO.2
  have fP7 := fP6.1.mono (new_below w6 (.cells #[.slice (some ⟨gT, 0, none⟩) S.length dT, .slice (some ⟨gO, 0, none⟩) S.length dO, .slice (some ⟨gP, 0, none⟩) S.length dP] 27)) uP.2
  have zv : w6.heap.size < (w6.alloc (.cells #[.slice (some ⟨gT, 0, none⟩) S.length dT, .slice (some ⟨gO, 0, none⟩) S.length dO, .slice (some ⟨gP, 0, none⟩) S.length dP] 27)).heap.size := by simp
  obtain ⟨v0, hv0⟩ : ∃ v, w6.alloc (.cells #[.slice (some ⟨gT, 0, none⟩) S.length dT, .slice (some ⟨gO, 0, none⟩) S.length dO, .slice (some ⟨gP, 0, none⟩) S.length dP] 27) = v := ⟨_, rfl⟩
  rw [hv0] at K9 fO7 fP7 zv ⊢
  obtain ⟨b2, hb2e⟩ : ∃ b, w6.heap.size = b := ⟨_, rfl⟩
  rw [hb2e] at K9 zv uO uP z6 ⊢
  have FO7 : Hid (QFill v0 gO O.length O O.length) := fO7
  have FP7 : Hid (QFill v0 gP P.length P P.length) := fP7
  have kO := fO6.2
  have kP := fP6.2
  clear hv0 hb2e K7 K4 K2 KW r1 r2 r3' hcp hb2 hb4 hb6 hb2w hb4w fO6 fP6 qA4 qA k0 k1 k2 k3 k4 k5 fr zW nb fO7 fP7
  have KA : Hid (Kept w [(w.heap.size, 0, .slice aT S.length cT), (w.heap.size, 1, .slice (some ⟨bo, oo, none⟩) S.length cO), (w.heap.size, 2, .slice (some ⟨bp, op, none⟩) S.length cP), (w.heap.size + 1, 0, .slice none 0 0), (w.heap.size + 1, 1, .slice none 0 0), (w.heap.size + 1, 2, .slice none 0 0), (b2, 0, .slice (some ⟨gT, 0, none⟩) S.length dT), (b2, 1, .slice (some ⟨gO, 0, none⟩) S.length dO), (b2, 2, .slice (some ⟨gP, 0, none⟩) S.length dP)] [w.heap.size + 1, b2] (v0.alloc (.cells #[] 34))) := K9.out.next (new_below _ _)
  have hq0 : Quad (v0.alloc (.cells #[] 34)).heap.size (v0.alloc (.cells #[] 34)) (some ⟨bs, os, none⟩) S := hS.here KA.out.hb
  go_upto_region 5 with (at_builtin; refine wpList_append_two _ rfl _ _ 24 rfl (w.heap.size + 2) 34 iC _ 4 32 Try.underlying24 hiC zC0 zC1 zC2 rfl (by decide) _ 0 [] rfl (own_noneQ v0 (w.heap.size + 2) (by omega) _) ⟨bs, os, none⟩ S.length cS (flatQ S) rfl (flatQ_length S) (quad_news hq0) (flatQ_cell S) ?m3 ?m4 ?m5 ?m6 ?m7; rotate_left 4; intro v' w8 hown hgr hbl; rw [Nat.zero_add, List.nil_append] at hown; obtain ⟨gS, dS, rfl, hgl, hgz⟩ := own_someC hown h01; have KB := KA.out.onlyO (OnlyO.of_grown hgr) (fun j e => (by have e1 : v0.heap.size = j := Option.some.inj e; omega)) (fun c hc e => (by have e1 : v0.heap.size = c.1 := Option.some.inj e; simp only [List.mem_cons, List.not_mem_nil, or_false] at hc; rcases hc with rfl | rfl | rfl | rfl | rfl | rfl | rfl | rfl | rfl <;> simp only at e1 <;> omega)) (fun b hb e => (by have e1 : v0.heap.size = b := Option.some.inj e; simp only [List.mem_cons, List.not_mem_nil, or_false] at hb; omega)); have ⟨_, _, _, _, _, _, ⟨_, s6⟩, _, _, _⟩ := KB.cells; have sF := (KB.free b2 (List.mem_cons_of_mem _ (List.mem_singleton.2 rfl))).2; have KBH : Hid (Kept w [(w.heap.size, 0, .slice aT S.length cT), (w.heap.size, 1, .slice (some ⟨bo, oo, none⟩) S.length cO), (w.heap.size, 2, .slice (some ⟨bp, op, none⟩) S.length cP), (w.heap.size + 1, 0, .slice none 0 0), (w.heap.size + 1, 1, .slice none 0 0), (w.heap.size + 1, 2, .slice none 0 0), (b2, 0, .slice (some ⟨gT, 0, none⟩) S.length dT), (b2, 1, .slice (some ⟨gO, 0, none⟩) S.length dO), (b2, 2, .slice (some ⟨gP, 0, none⟩) S.length dP)] [w.heap.size + 1, b2] w8) := KB; clear KB)
  case m3 => unfold maxLen; omega
  case m4 => omega
  case m5 => simp; omega
  case m6 => omega
  have fS8 := own_rowQ hown
  have gSr : gS = v0.heap.size ∨ gS = v0.heap.size + 1 := by
    rcases hbl with h | h
    · exact .inl (Option.some.inj h)
    · exact .inr (by have e := Option.some.inj h; simp only [World.size_alloc] at e; exact e)
  have r3 : Rt3 w b2 gS gO gP := ⟨by omega, by omega, by omega, by omega, by omega, by omega, by omega, by omega, hap⟩
  have hba8 : OnlyO (some v0.heap.size) (v0.alloc (.cells #[] 34)) w8 := OnlyO.of_grown hgr
  have z8 := hba8.size
  rw [World.size_alloc] at z8
  have D : Hid (RtSt w (w8.setCell ⟨b2, 0, none⟩ (.slice (some ⟨gS, 0, none⟩) S.length dS)) b2 (.slice aT S.length cT) (.slice (some ⟨bo, oo, none⟩) S.length cO) (.slice (some ⟨bp, op, none⟩) S.length cP) gS dS gO dO gP dP S O P) := by
    have fO8 := (FO7.out.mono (new_below _ _) (by omega)).onlyO hba8 (by simp; omega) (fun e => by have e1 : v0.heap.size = gO := Option.some.inj e; omega)
    have fP8 := (FP7.out.mono (new_below _ _) (by omega)).onlyO hba8 (by simp; omega) (fun e => by have e1 : v0.heap.size = gP := Option.some.inj e; omega)
    refine ⟨?_, fS8.1.far _ (by simp only; omega), fO8.far _ (by simp only; omega), fP8.far _ (by simp only; omega), by simpa using hgz, by simp; omega, by simp; omega⟩
    rw [HLO.out, HLP.out]
    have k := (KBH.out.put b2 0 (.slice (some ⟨gS, 0, none⟩) S.length dS) (by omega)).to (cs' := [(w.heap.size, 0, .slice aT S.length cT), (w.heap.size, 1, .slice (some ⟨bo, oo, none⟩) S.length cO), (w.heap.size, 2, .slice (some ⟨bp, op, none⟩) S.length cP), (w.heap.size + 1, 0, .slice none 0 0), (w.heap.size + 1, 1, .slice none 0 0), (w.heap.size + 1, 2, .slice none 0 0), (b2, 0, .slice (some ⟨gS, 0, none⟩) S.length dS), (b2, 1, .slice (some ⟨gO, 0, none⟩) S.length dO), (b2, 2, .slice (some ⟨gP, 0, none⟩) S.length dP)]) (by simp [putIn] <;> omega)
    exact ⟨k.cells, fun b hb => k.free b (by simp only [List.mem_cons, List.not_mem_nil, or_false] at hb ⊢; exact .inl hb), k.hb⟩
  obtain ⟨v9, hv9⟩ : ∃ v, w8.setCell ⟨b2, 0, none⟩ (.slice (some ⟨gS, 0, none⟩) S.length dS) = v := ⟨_, rfl⟩
  rw [hv9] at D ⊢
  have kS := fS8.2
  clear hv9 KA KBH K9 FO7 FP7 hown hgr hbl hba8 s6 sF hq0 gSr fS8 z8 hgz hgl
  go_wp2
  go_loopw [9] (fun i wr => ∃ (k : Nat) (X Y : List Q4), i = .int .i64 k ∧ k ≤ S.length ∧ Hid (X = mixR (movO S O now) O k) ∧ Hid (Y = mixR (movP S P now) P k) ∧ Hid (RtSt w wr b2 (.slice aT S.length cT) (.slice (some ⟨bo, oo, none⟩) S.length cO) (.slice (some ⟨bp, op, none⟩) S.length cP) gS dS gO dO gP dP S X Y)) (fun i _ => S.length - (intOf i).toNat)
  case atStart => exact ⟨0, O, P, rfl, by omega, mixR_zero _ _, mixR_zero _ _, D⟩
  case round =>
    clear D
    obtain ⟨k, X, Y, rfl, hk, HX, HY, D⟩ := hrel
    have HLX : Hid (X.length = S.length) := by
      show X.length = S.length
      rw [HX.out, mixR_length (by rw [movO_length HLO.out, HLO.out]) k (by have := HLO.out; omega), HLO.out]
    have HLY : Hid (Y.length = S.length) := by
      show Y.length = S.length
      rw [HY.out, mixR_length (by rw [movP_length HLP.out, HLP.out]) k (by have := HLP.out; omega), HLP.out]
    by_cases hlt : k < S.length
    · have hlt' : (k : Int) < (S.length : Int) := by omega
      have hko : k < O.length := by have := HLO.out; omega
      have hkp : k < P.length := by have := HLP.out; omega
      have hkX : k < X.length := by have := HLX.out; omega
      have hkY : k < Y.length := by have := HLY.out; omega
      have hzO : k < (movO S O now).length := by rw [movO_length HLO.out]; exact hlt
      have hzP : k < (movP S P now).length := by rw [movP_length HLP.out]; exact hlt
      have hS1 := mixR_set (Z := movO S O now) (O := O) (by rw [movO_length HLO.out, HLO.out]) hko hzO
      have hS2 := mixR_set (Z := movP S P now) (O := P) (by rw [movP_length HLP.out, HLP.out]) hkp hzP
      have eO : (movO S O now)[k] = resetQ now S[k].2.1 S[k].2.2.2 O[k] := by simp [movO]
      have eP : (movP S P now)[k] = resetQ now S[k].2.2.1 S[k].2.2.2 P[k] := by simp [movP]
      rw [eO] at hS1
      rw [eP] at hS2
      obtain ⟨b, hb⟩ : ∃ b, S[k] = b := ⟨_, rfl⟩
      obtain ⟨bq, hbq⟩ : ∃ b, O[k] = b := ⟨_, rfl⟩
      obtain ⟨bpp, hbpp⟩ : ∃ b, P[k] = b := ⟨_, rfl⟩
      rw [hb, hbq] at hS1
      rw [hb, hbpp] at hS2
      obtain ⟨p, r, c, u⟩ := b
      obtain ⟨q1, q2, q3, q4⟩ := bq
      obtain ⟨p1, p2, p3, p4⟩ := bpp
      simp only at hS1 hS2
      obtain ⟨⟨e1, e2, e3, e4⟩, hy⟩ : ∃ y, resetQ now r u (q1, q2, q3, q4) = y := ⟨_, rfl⟩
      obtain ⟨⟨j1, j2, j3, j4⟩, hz⟩ : ∃ y, resetQ now c u (p1, p2, p3, p4) = y := ⟨_, rfl⟩
      rw [hy, ← HX.out] at hS1
      rw [hz, ← HY.out] at hS2
      have HS1 : Hid (X.set k (e1, e2, e3, e4) = mixR (movO S O now) O (k + 1)) := hS1
      have HS2 : Hid (Y.set k (j1, j2, j3, j4) = mixR (movP S P now) P (k + 1)) := hS2
      have HRO := fun W : World => sReset_is hy W
      have HRP := fun W : World => sReset_is hz W
      have HEO : Hid (∀ W, Below w.heap.size w W → W.cell? ⟨bo, oo + k * 4, none⟩ = some (.int .i64 q1) ∧ W.cell? ⟨bo, oo + k * 4 + 1, none⟩ = some (.int .i64 q2) ∧ W.cell? ⟨bo, oo + k * 4 + 2, none⟩ = some (.int .i64 q3) ∧ W.cell? ⟨bo, oo + k * 4 + 3, none⟩ = some (.int .i64 q4)) := fun W h => (by have e := hO.cells h k hko; rw [hbq] at e; exact e)
      have HEP : Hid (∀ W, Below w.heap.size w W → W.cell? ⟨bp, op + k * 4, none⟩ = some (.int .i64 p1) ∧ W.cell? ⟨bp, op + k * 4 + 1, none⟩ = some (.int .i64 p2) ∧ W.cell? ⟨bp, op + k * 4 + 2, none⟩ = some (.int .i64 p3) ∧ W.cell? ⟨bp, op + k * 4 + 3, none⟩ = some (.int .i64 p4)) := fun W h => (by have e := hP.cells h k hkp; rw [hbpp] at e; exact e)
      have HES : Hid (∀ W, Below w.heap.size w W → W.cell? ⟨bs, os + k * 4 + 1, none⟩ = some (.int .i64 r) ∧ W.cell? ⟨bs, os + k * 4 + 2, none⟩ = some (.int .i64 c) ∧ W.cell? ⟨bs, os + k * 4 + 3, none⟩ = some (.int .i64 u)) := fun W h => (by have e := hS.cells h k hlt; rw [hb] at e; exact ⟨e.2.1, e.2.2.1, e.2.2.2⟩)
      clear hb hbq hbpp hS1 hS2 hy hz hko hkp eO eP hzO hzP
      have hSof : Hid (∀ W, RtSt w W b2 (.slice aT S.length cT) (.slice (some ⟨bo, oo, none⟩) S.length cO) (.slice (some ⟨bp, op, none⟩) S.length cP) gS dS gO dO gP dP S X Y → (fun w' => w'.cell? ⟨b2, 1, none⟩ = some (.slice (some ⟨gO, 0, none⟩) S.length dO) ∧ w'.cell? ⟨w.heap.size, 1, none⟩ = some (.slice (some ⟨bo, oo, none⟩) S.length cO) ∧ w'.cell? ⟨bo, oo + k * 4, none⟩ = some (.int .i64 q1) ∧ w'.cell? ⟨bo, oo + k * 4 + 1, none⟩ = some (.int .i64 q2) ∧ w'.cell? ⟨bo, oo + k * 4 + 2, none⟩ = some (.int .i64 q3) ∧ w'.cell? ⟨bo, oo + k * 4 + 3, none⟩ = some (.int .i64 q4) ∧ w'.cell? ⟨bs, os + k * 4 + 1, none⟩ = some (.int .i64 r) ∧ w'.cell? ⟨bs, os + k * 4 + 3, none⟩ = some (.int .i64 u)) W) := fun W d => (by have ⟨_, ⟨_, f1⟩, _, _, _, _, _, ⟨_, e4⟩, _⟩ := d.kept.cells; rw [HLX.out] at e4; have ⟨g0, g1, g2, g3⟩ := HEO.out W d.kept.hb; have ⟨m1, _, m3⟩ := HES.out W d.kept.hb; exact ⟨e4, f1, g0, g1, g2, g3, m1, m3⟩)
      go_upto_region 8 with (fail)
      refine region_late (S := fun w' => w'.cell? ⟨b2, 1, none⟩ = some (.slice (some ⟨gO, 0, none⟩) S.length dO) ∧ w'.cell? ⟨w.heap.size, 1, none⟩ = some (.slice (some ⟨bo, oo, none⟩) S.length cO) ∧ w'.cell? ⟨bo, oo + k * 4, none⟩ = some (.int .i64 q1) ∧ w'.cell? ⟨bo, oo + k * 4 + 1, none⟩ = some (.int .i64 q2) ∧ w'.cell? ⟨bo, oo + k * 4 + 2, none⟩ = some (.int .i64 q3) ∧ w'.cell? ⟨bo, oo + k * 4 + 3, none⟩ = some (.int .i64 q4) ∧ w'.cell? ⟨bs, os + k * 4 + 1, none⟩ = some (.int .i64 r) ∧ w'.cell? ⟨bs, os + k * 4 + 3, none⟩ = some (.int .i64 u)) 21 (by kernel_rfl) (hSof.out _ (D.out.next r3 (Below.refl _ _).drew)) (fun hS => ?_)
      refine late_take (i := 0) (v := ?_) rfl (by kernel_rfl) (by kernel_rfl) (by kernel_rfl) (by kernel_rfl) (fun _ _ _ h => h) (Or.inl ⟨by rfl, ?_⟩) (by assumption) ?_
      rotate_left 1
      · (intro w' hSw; (try dsimp only at hSw); go_simp; try with_reducible rfl)
      try simp only [Act.put, List.setIfInBounds_toArray, List.set_cons_zero, List.set_cons_succ, List.getElem_toArray, List.getElem_cons_succ, List.getElem_cons_zero]
      refine late_take (i := 1) (v := ?_) rfl (by kernel_rfl) (by kernel_rfl) (by kernel_rfl) (by kernel_rfl) (fun _ _ _ h => h) (Or.inl ⟨by rfl, ?_⟩) (by assumption) ?_
      rotate_left 1
      · (intro w' hSw; (try dsimp only at hSw); go_simp; try with_reducible rfl)
      try simp only [Act.put, List.setIfInBounds_toArray, List.set_cons_zero, List.set_cons_succ, List.getElem_toArray, List.getElem_cons_succ, List.getElem_cons_zero]
      refine late_take (i := 2) (v := ?_) rfl (by kernel_rfl) (by kernel_rfl) (by kernel_rfl) (by kernel_rfl) (fun _ _ _ h => h) (Or.inl ⟨by rfl, ?_⟩) (by assumption) ?_
      rotate_left 1
      · (intro w' hSw; (try dsimp only at hSw); go_simp; try with_reducible rfl)
      try simp only [Act.put, List.setIfInBounds_toArray, List.set_cons_zero, List.set_cons_succ, List.getElem_toArray, List.getElem_cons_succ, List.getElem_cons_zero]
      refine late_take (i := 3) (v := ?_) rfl (by kernel_rfl) (by kernel_rfl) (by kernel_rfl) (by kernel_rfl) (fun _ _ _ h => h) (Or.inl ⟨by rfl, ?_⟩) (by assumption) ?_
      rotate_left 1
      · (intro w' hSw; (try dsimp only at hSw); go_simp; try with_reducible rfl)
      try simp only [Act.put, List.setIfInBounds_toArray, List.set_cons_zero, List.set_cons_succ, List.getElem_toArray, List.getElem_cons_succ, List.getElem_cons_zero]
      refine late_take (i := 4) (v := ?_) rfl (by kernel_rfl) (by kernel_rfl) (by kernel_rfl) (by kernel_rfl) (fun _ _ _ h => h) (Or.inl ⟨by rfl, ?_⟩) (by assumption) ?_
      rotate_left 1
      · (intro w' hSw; (try dsimp only at hSw); go_simp; try with_reducible rfl)
      try simp only [Act.put, List.setIfInBounds_toArray, List.set_cons_zero, List.set_cons_succ, List.getElem_toArray, List.getElem_cons_succ, List.getElem_cons_zero]
      refine late_take (i := 5) (v := ?_) rfl (by kernel_rfl) (by kernel_rfl) (by kernel_rfl) (by kernel_rfl) (fun _ _ _ h => h) (Or.inl ⟨by rfl, ?_⟩) (by assumption) ?_
      rotate_left 1
      · (intro w' hSw; (try dsimp only at hSw); go_simp; try with_reducible rfl)
      try simp only [Act.put, List.setIfInBounds_toArray, List.set_cons_zero, List.set_cons_succ, List.getElem_toArray, List.getElem_cons_succ, List.getElem_cons_zero]
      refine late_take (i := 6) (v := ?_) rfl (by kernel_rfl) (by kernel_rfl) (by kernel_rfl) (by kernel_rfl) (fun _ _ _ h => h) (Or.inl ⟨by rfl, ?_⟩) (by assumption) ?_
      rotate_left 1
      · (intro w' hSw; (try dsimp only at hSw); go_simp; try with_reducible rfl)
      try simp only [Act.put, List.setIfInBounds_toArray, List.set_cons_zero, List.set_cons_succ, List.getElem_toArray, List.getElem_cons_succ, List.getElem_cons_zero]
      refine late_take (i := 7) (v := ?_) rfl (by kernel_rfl) (by kernel_rfl) (by kernel_rfl) (by kernel_rfl) (fun _ _ _ h => h) (Or.inl ⟨by rfl, ?_⟩) (by assumption) ?_
      rotate_left 1
      · (intro w' hSw; (try dsimp only at hSw); go_simp; try with_reducible rfl)
      try simp only [Act.put, List.setIfInBounds_toArray, List.set_cons_zero, List.set_cons_succ, List.getElem_toArray, List.getElem_cons_succ, List.getElem_cons_zero]
      refine late_take (i := 8) (v := ?_) rfl (by kernel_rfl) (by kernel_rfl) (by kernel_rfl) (by kernel_rfl) (fun _ _ _ h => h) (Or.inl ⟨by rfl, ?_⟩) (by assumption) ?_
      rotate_left 1
      · (intro w' hSw; (try dsimp only at hSw); go_simp; try with_reducible rfl)
      try simp only [Act.put, List.setIfInBounds_toArray, List.set_cons_zero, List.set_cons_succ, List.getElem_toArray, List.getElem_cons_succ, List.getElem_cons_zero]
      refine late_take (i := 9) (v := ?_) rfl (by kernel_rfl) (by kernel_rfl) (by kernel_rfl) (by kernel_rfl) (fun _ _ _ h => h) (Or.inl ⟨by rfl, ?_⟩) (by assumption) ?_
      rotate_left 1
      · (intro w' hSw; (try dsimp only at hSw); go_simp; try with_reducible rfl)
      try simp only [Act.put, List.setIfInBounds_toArray, List.set_cons_zero, List.set_cons_succ, List.getElem_toArray, List.getElem_cons_succ, List.getElem_cons_zero]
      refine late_take (i := 10) (v := ?_) rfl (by kernel_rfl) (by kernel_rfl) (by kernel_rfl) (by kernel_rfl) (fun _ _ _ h => h) (Or.inl ⟨by rfl, ?_⟩) (by assumption) ?_
      rotate_left 1
      · (intro w' hSw; (try dsimp only at hSw); go_simp; try with_reducible rfl)
      try simp only [Act.put, List.setIfInBounds_toArray, List.set_cons_zero, List.set_cons_succ, List.getElem_toArray, List.getElem_cons_succ, List.getElem_cons_zero]
      refine late_take (i := 11) (v := ?_) rfl (by kernel_rfl) (by kernel_rfl) (by kernel_rfl) (by kernel_rfl) (fun _ _ _ h => h) (Or.inl ⟨by rfl, ?_⟩) (by assumption) ?_
      rotate_left 1
      · (intro w' hSw; (try dsimp only at hSw); go_simp; try with_reducible rfl)
      try simp only [Act.put, List.setIfInBounds_toArray, List.set_cons_zero, List.set_cons_succ, List.getElem_toArray, List.getElem_cons_succ, List.getElem_cons_zero]
      refine late_take (i := 12) (v := ?_) rfl (by kernel_rfl) (by kernel_rfl) (by kernel_rfl) (by kernel_rfl) (fun _ _ _ h => h) (Or.inl ⟨by rfl, ?_⟩) (by assumption) ?_
      rotate_left 1
      · (intro w' hSw; (try dsimp only at hSw); go_simp; try with_reducible rfl)
      try simp only [Act.put, List.setIfInBounds_toArray, List.set_cons_zero, List.set_cons_succ, List.getElem_toArray, List.getElem_cons_succ, List.getElem_cons_zero]
      refine late_take (i := 13) (v := ?_) rfl (by kernel_rfl) (by kernel_rfl) (by kernel_rfl) (by kernel_rfl) (fun _ _ _ h => h) (Or.inl ⟨by rfl, ?_⟩) (by assumption) ?_
      rotate_left 1
      · (intro w' hSw; (try dsimp only at hSw); go_simp; try with_reducible rfl)
      try simp only [Act.put, List.setIfInBounds_toArray, List.set_cons_zero, List.set_cons_succ, List.getElem_toArray, List.getElem_cons_succ, List.getElem_cons_zero]
      refine late_take (i := 14) (v := ?_) rfl (by kernel_rfl) (by kernel_rfl) (by kernel_rfl) (by kernel_rfl) (fun _ _ _ h => h) (Or.inl ⟨by rfl, ?_⟩) (by assumption) ?_
      rotate_left 1
      · (intro w' hSw; (try dsimp only at hSw); go_simp; try with_reducible rfl)
      try simp only [Act.put, List.setIfInBounds_toArray, List.set_cons_zero, List.set_cons_succ, List.getElem_toArray, List.getElem_cons_succ, List.getElem_cons_zero]
      refine late_take (i := 15) (v := ?_) rfl (by kernel_rfl) (by kernel_rfl) (by kernel_rfl) (by kernel_rfl) (fun _ _ _ h => h) (Or.inl ⟨by rfl, ?_⟩) (by assumption) ?_
      rotate_left 1
      · (intro w' hSw; (try dsimp only at hSw); go_simp; try with_reducible rfl)
      try simp only [Act.put, List.setIfInBounds_toArray, List.set_cons_zero, List.set_cons_succ, List.getElem_toArray, List.getElem_cons_succ, List.getElem_cons_zero]
      refine late_take (i := 16) (v := ?_) rfl (by kernel_rfl) (by kernel_rfl) (by kernel_rfl) (by kernel_rfl) (fun _ _ _ h => h) (Or.inl ⟨by rfl, ?_⟩) (by assumption) ?_
      rotate_left 1
      · (intro w' hSw; (try dsimp only at hSw); go_simp; try with_reducible rfl)
      try simp only [Act.put, List.setIfInBounds_toArray, List.set_cons_zero, List.set_cons_succ, List.getElem_toArray, List.getElem_cons_succ, List.getElem_cons_zero]
      refine late_take (i := 17) (v := ?_) rfl (by kernel_rfl) (by kernel_rfl) (by kernel_rfl) (by kernel_rfl) (fun _ _ _ h => h) (Or.inl ⟨by rfl, ?_⟩) (by assumption) ?_
      rotate_left 1
      · (intro w' hSw; (try dsimp only at hSw); go_simp; try with_reducible rfl)
      try simp only [Act.put, List.setIfInBounds_toArray, List.set_cons_zero, List.set_cons_succ, List.getElem_toArray, List.getElem_cons_succ, List.getElem_cons_zero]
      refine late_take (i := 18) (v := ?_) rfl (by kernel_rfl) (by kernel_rfl) (by kernel_rfl) (by kernel_rfl) (fun _ _ _ h => h) (Or.inl ⟨by rfl, ?_⟩) (by assumption) ?_
      rotate_left 1
      · (intro w' hSw; (try dsimp only at hSw); go_simp; try with_reducible rfl)
      try simp only [Act.put, List.setIfInBounds_toArray, List.set_cons_zero, List.set_cons_succ, List.getElem_toArray, List.getElem_cons_succ, List.getElem_cons_zero]
      refine late_one (i := 19) (by kernel_rfl) rfl (fun K hK => ?_)
      go_simp
      (refine (HRO _).mono ?_; rintro e va ⟨rfl, hba⟩; have hba := undrew hba; have D2 : Hid (RtSt w va b2 (.slice aT S.length cT) (.slice (some ⟨bo, oo, none⟩) S.length cO) (.slice (some ⟨bp, op, none⟩) S.length cP) gS dS gO dO gP dP S X Y) := D.out.next r3 hba; have hSa := hSof.out _ D2.out; have ⟨⟨y0, y1, y2, y3⟩, yf⟩ := fill_at D2.out.fO hkX; simp only [])
      refine hK.out _ _ (by assumption) (fun _ => ?_)
      try simp only [Act.put, List.setIfInBounds_toArray, List.set_cons_zero, List.set_cons_succ, List.getElem_toArray, List.getElem_cons_succ, List.getElem_cons_zero]
      refine late_take (i := 20) (v := ?_) rfl (by kernel_rfl) (by kernel_rfl) (by kernel_rfl) (by kernel_rfl) (fun _ _ _ h => h) (Or.inl ⟨by rfl, ?_⟩) (by assumption) ?_
      rotate_left 1
      · (intro w' hSw; (try dsimp only at hSw); go_simp; try with_reducible rfl)
      try simp only [Act.put, List.setIfInBounds_toArray, List.set_cons_zero, List.set_cons_succ, List.getElem_toArray, List.getElem_cons_succ, List.getElem_cons_zero]
      refine late_last (by kernel_rfl) rfl (by kernel_rfl) (fun K hK => ?_)
      go_simp
      refine hK.out _ _ ?_
      try simp only [Act.put, List.setIfInBounds_toArray, List.set_cons_zero, List.set_cons_succ, List.getElem_toArray, List.getElem_cons_succ, List.getElem_cons_zero]
      have D1x : Hid (RtSt w (putQ va gO (k * 4) (e1, e2, e3, e4)) b2 (.slice aT S.length cT) (.slice (some ⟨bo, oo, none⟩) S.length cO) (.slice (some ⟨bp, op, none⟩) S.length cP) gS dS gO dO gP dP S (X.set k (e1, e2, e3, e4)) Y) := D2.out.putO r3 hkX (e1, e2, e3, e4)
      obtain ⟨V, hV⟩ : ∃ V, putQ va gO (k * 4) (e1, e2, e3, e4) = V := ⟨_, rfl⟩
      have hV' : (((va.setCell ⟨gO, k * 4, none⟩ (.int .i64 e1)).setCell ⟨gO, k * 4 + 1, none⟩ (.int .i64 e2)).setCell ⟨gO, k * 4 + 2, none⟩ (.int .i64 e3)).setCell ⟨gO, k * 4 + 3, none⟩ (.int .i64 e4) = V := hV
      rw [hV'] at *
      rw [hV] at D1x
      obtain ⟨X1, hX1⟩ : ∃ X1, X.set k (e1, e2, e3, e4) = X1 := ⟨_, rfl⟩
      have HX1 : Hid (X1 = mixR (movO S O now) O (k + 1)) := by rw [← hX1]; exact HS1.out
      have D1 : Hid (RtSt w V b2 (.slice aT S.length cT) (.slice (some ⟨bo, oo, none⟩) S.length cO) (.slice (some ⟨bp, op, none⟩) S.length cP) gS dS gO dO gP dP S X1 Y) := by rw [← hX1]; exact D1x.out
      clear hV hV' hX1 D1x D2 D hSof HX HS1 y0 y1 y2 y3 yf
      have hSof2 : Hid (∀ W, RtSt w W b2 (.slice aT S.length cT) (.slice (some ⟨bo, oo, none⟩) S.length cO) (.slice (some ⟨bp, op, none⟩) S.length cP) gS dS gO dO gP dP S X1 Y → (fun w' => w'.cell? ⟨b2, 2, none⟩ = some (.slice (some ⟨gP, 0, none⟩) S.length dP) ∧ w'.cell? ⟨w.heap.size, 2, none⟩ = some (.slice (some ⟨bp, op, none⟩) S.length cP) ∧ w'.cell? ⟨bp, op + k * 4, none⟩ = some (.int .i64 p1) ∧ w'.cell? ⟨bp, op + k * 4 + 1, none⟩ = some (.int .i64 p2) ∧ w'.cell? ⟨bp, op + k * 4 + 2, none⟩ = some (.int .i64 p3) ∧ w'.cell? ⟨bp, op + k * 4 + 3, none⟩ = some (.int .i64 p4) ∧ w'.cell? ⟨bs, os + k * 4 + 2, none⟩ = some (.int .i64 c) ∧ w'.cell? ⟨bs, os + k * 4 + 3, none⟩ = some (.int .i64 u)) W) := fun W d => (by have ⟨_, _, ⟨_, f2⟩, _, _, _, _, _, ⟨_, e5⟩, _⟩ := d.kept.cells; rw [HLY.out] at e5; have ⟨g0, g1, g2, g3⟩ := HEP.out W d.kept.hb; have ⟨_, m2, m3⟩ := HES.out W d.kept.hb; exact ⟨e5, f2, g0, g1, g2, g3, m2, m3⟩)
      repeat go_step
      refine region_late (S := fun w' => w'.cell? ⟨b2, 2, none⟩ = some (.slice (some ⟨gP, 0, none⟩) S.length dP) ∧ w'.cell? ⟨w.heap.size, 2, none⟩ = some (.slice (some ⟨bp, op, none⟩) S.length cP) ∧ w'.cell? ⟨bp, op + k * 4, none⟩ = some (.int .i64 p1) ∧ w'.cell? ⟨bp, op + k * 4 + 1, none⟩ = some (.int .i64 p2) ∧ w'.cell? ⟨bp, op + k * 4 + 2, none⟩ = some (.int .i64 p3) ∧ w'.cell? ⟨bp, op + k * 4 + 3, none⟩ = some (.int .i64 p4) ∧ w'.cell? ⟨bs, os + k * 4 + 2, none⟩ = some (.int .i64 c) ∧ w'.cell? ⟨bs, os + k * 4 + 3, none⟩ = some (.int .i64 u)) 21 (by kernel_rfl) (hSof2.out _ (D1.out.next r3 (Below.refl _ _).drew)) (fun hS => ?_)
      refine late_take (i := 0) (v := ?_) rfl (by kernel_rfl) (by kernel_rfl) (by kernel_rfl) (by kernel_rfl) (fun _ _ _ h => h) (Or.inl ⟨by rfl, ?_⟩) (by assumption) ?_
      rotate_left 1
      · (intro w' hSw; (try dsimp only at hSw); go_simp; try with_reducible rfl)
      try simp only [Act.put, List.setIfInBounds_toArray, List.set_cons_zero, List.set_cons_succ, List.getElem_toArray, List.getElem_cons_succ, List.getElem_cons_zero]
      refine late_take (i := 1) (v := ?_) rfl (by kernel_rfl) (by kernel_rfl) (by kernel_rfl) (by kernel_rfl) (fun _ _ _ h => h) (Or.inl ⟨by rfl, ?_⟩) (by assumption) ?_
      rotate_left 1
      · (intro w' hSw; (try dsimp only at hSw); go_simp; try with_reducible rfl)
      try simp only [Act.put, List.setIfInBounds_toArray, List.set_cons_zero, List.set_cons_succ, List.getElem_toArray, List.getElem_cons_succ, List.getElem_cons_zero]
      refine late_take (i := 2) (v := ?_) rfl (by kernel_rfl) (by kernel_rfl) (by kernel_rfl) (by kernel_rfl) (fun _ _ _ h => h) (Or.inl ⟨by rfl, ?_⟩) (by assumption) ?_
      rotate_left 1
      · (intro w' hSw; (try dsimp only at hSw); go_simp; try with_reducible rfl)
      try simp only [Act.put, List.setIfInBounds_toArray, List.set_cons_zero, List.set_cons_succ, List.getElem_toArray, List.getElem_cons_succ, List.getElem_cons_zero]
      refine late_take (i := 3) (v := ?_) rfl (by kernel_rfl) (by kernel_rfl) (by kernel_rfl) (by kernel_rfl) (fun _ _ _ h => h) (Or.inl ⟨by rfl, ?_⟩) (by assumption) ?_
      rotate_left 1
      · (intro w' hSw; (try dsimp only at hSw); go_simp; try with_reducible rfl)
      try simp only [Act.put, List.setIfInBounds_toArray, List.set_cons_zero, List.set_cons_succ, List.getElem_toArray, List.getElem_cons_succ, List.getElem_cons_zero]
      refine late_take (i := 4) (v := ?_) rfl (by kernel_rfl) (by kernel_rfl) (by kernel_rfl) (by kernel_rfl) (fun _ _ _ h => h) (Or.inl ⟨by rfl, ?_⟩) (by assumption) ?_
      rotate_left 1
      · (intro w' hSw; (try dsimp only at hSw); go_simp; try with_reducible rfl)
      try simp only [Act.put, List.setIfInBounds_toArray, List.set_cons_zero, List.set_cons_succ, List.getElem_toArray, List.getElem_cons_succ, List.getElem_cons_zero]
      refine late_take (i := 5) (v := ?_) rfl (by kernel_rfl) (by kernel_rfl) (by kernel_rfl) (by kernel_rfl) (fun _ _ _ h => h) (Or.inl ⟨by rfl, ?_⟩) (by assumption) ?_
      rotate_left 1
      · (intro w' hSw; (try dsimp only at hSw); go_simp; try with_reducible rfl)
      try simp only [Act.put, List.setIfInBounds_toArray, List.set_cons_zero, List.set_cons_succ, List.getElem_toArray, List.getElem_cons_succ, List.getElem_cons_zero]
      refine late_take (i := 6) (v := ?_) rfl (by kernel_rfl) (by kernel_rfl) (by kernel_rfl) (by kernel_rfl) (fun _ _ _ h => h) (Or.inl ⟨by rfl, ?_⟩) (by assumption) ?_
      rotate_left 1
      · (intro w' hSw; (try dsimp only at hSw); go_simp; try with_reducible rfl)
      try simp only [Act.put, List.setIfInBounds_toArray, List.set_cons_zero, List.set_cons_succ, List.getElem_toArray, List.getElem_cons_succ, List.getElem_cons_zero]
      refine late_take (i := 7) (v := ?_) rfl (by kernel_rfl) (by kernel_rfl) (by kernel_rfl) (by kernel_rfl) (fun _ _ _ h => h) (Or.inl ⟨by rfl, ?_⟩) (by assumption) ?_
      rotate_left 1
      · (intro w' hSw; (try dsimp only at hSw); go_simp; try with_reducible rfl)
      try simp only [Act.put, List.setIfInBounds_toArray, List.set_cons_zero, List.set_cons_succ, List.getElem_toArray, List.getElem_cons_succ, List.getElem_cons_zero]
      refine late_take (i := 8) (v := ?_) rfl (by kernel_rfl) (by kernel_rfl) (by kernel_rfl) (by kernel_rfl) (fun _ _ _ h => h) (Or.inl ⟨by rfl, ?_⟩) (by assumption) ?_
      rotate_left 1
      · (intro w' hSw; (try dsimp only at hSw); go_simp; try with_reducible rfl)
      try simp only [Act.put, List.setIfInBounds_toArray, List.set_cons_zero, List.set_cons_succ, List.getElem_toArray, List.getElem_cons_succ, List.getElem_cons_zero]
      refine late_take (i := 9) (v := ?_) rfl (by kernel_rfl) (by kernel_rfl) (by kernel_rfl) (by kernel_rfl) (fun _ _ _ h => h) (Or.inl ⟨by rfl, ?_⟩) (by assumption) ?_
      rotate_left 1
      · (intro w' hSw; (try dsimp only at hSw); go_simp; try with_reducible rfl)
      try simp only [Act.put, List.setIfInBounds_toArray, List.set_cons_zero, List.set_cons_succ, List.getElem_toArray, List.getElem_cons_succ, List.getElem_cons_zero]
      refine late_take (i := 10) (v := ?_) rfl (by kernel_rfl) (by kernel_rfl) (by kernel_rfl) (by kernel_rfl) (fun _ _ _ h => h) (Or.inl ⟨by rfl, ?_⟩) (by assumption) ?_
      rotate_left 1
      · (intro w' hSw; (try dsimp only at hSw); go_simp; try with_reducible rfl)
      try simp only [Act.put, List.setIfInBounds_toArray, List.set_cons_zero, List.set_cons_succ, List.getElem_toArray, List.getElem_cons_succ, List.getElem_cons_zero]
      refine late_take (i := 11) (v := ?_) rfl (by kernel_rfl) (by kernel_rfl) (by kernel_rfl) (by kernel_rfl) (fun _ _ _ h => h) (Or.inl ⟨by rfl, ?_⟩) (by assumption) ?_
      rotate_left 1
      · (intro w' hSw; (try dsimp only at hSw); go_simp; try with_reducible rfl)
      try simp only [Act.put, List.setIfInBounds_toArray, List.set_cons_zero, List.set_cons_succ, List.getElem_toArray, List.getElem_cons_succ, List.getElem_cons_zero]
      refine late_take (i := 12) (v := ?_) rfl (by kernel_rfl) (by kernel_rfl) (by kernel_rfl) (by kernel_rfl) (fun _ _ _ h => h) (Or.inl ⟨by rfl, ?_⟩) (by assumption) ?_
      rotate_left 1
      · (intro w' hSw; (try dsimp only at hSw); go_simp; try with_reducible rfl)
      try simp only [Act.put, List.setIfInBounds_toArray, List.set_cons_zero, List.set_cons_succ, List.getElem_toArray, List.getElem_cons_succ, List.getElem_cons_zero]
      refine late_take (i := 13) (v := ?_) rfl (by kernel_rfl) (by kernel_rfl) (by kernel_rfl) (by kernel_rfl) (fun _ _ _ h => h) (Or.inl ⟨by rfl, ?_⟩) (by assumption) ?_
      rotate_left 1
      · (intro w' hSw; (try dsimp only at hSw); go_simp; try with_reducible rfl)
      try simp only [Act.put, List.setIfInBounds_toArray, List.set_cons_zero, List.set_cons_succ, List.getElem_toArray, List.getElem_cons_succ, List.getElem_cons_zero]
      refine late_take (i := 14) (v := ?_) rfl (by kernel_rfl) (by kernel_rfl) (by kernel_rfl) (by kernel_rfl) (fun _ _ _ h => h) (Or.inl ⟨by rfl, ?_⟩) (by assumption) ?_
      rotate_left 1
      · (intro w' hSw; (try dsimp only at hSw); go_simp; try with_reducible rfl)
      try simp only [Act.put, List.setIfInBounds_toArray, List.set_cons_zero, List.set_cons_succ, List.getElem_toArray, List.getElem_cons_succ, List.getElem_cons_zero]
      refine late_take (i := 15) (v := ?_) rfl (by kernel_rfl) (by kernel_rfl) (by kernel_rfl) (by kernel_rfl) (fun _ _ _ h => h) (Or.inl ⟨by rfl, ?_⟩) (by assumption) ?_
      rotate_left 1
      · (intro w' hSw; (try dsimp only at hSw); go_simp; try with_reducible rfl)
      try simp only [Act.put, List.setIfInBounds_toArray, List.set_cons_zero, List.set_cons_succ, List.getElem_toArray, List.getElem_cons_succ, List.getElem_cons_zero]
      refine late_take (i := 16) (v := ?_) rfl (by kernel_rfl) (by kernel_rfl) (by kernel_rfl) (by kernel_rfl) (fun _ _ _ h => h) (Or.inl ⟨by rfl, ?_⟩) (by assumption) ?_
      rotate_left 1
      · (intro w' hSw; (try dsimp only at hSw); go_simp; try with_reducible rfl)
      try simp only [Act.put, List.setIfInBounds_toArray, List.set_cons_zero, List.set_cons_succ, List.getElem_toArray, List.getElem_cons_succ, List.getElem_cons_zero]
      refine late_take (i := 17) (v := ?_) rfl (by kernel_rfl) (by kernel_rfl) (by kernel_rfl) (by kernel_rfl) (fun _ _ _ h => h) (Or.inl ⟨by rfl, ?_⟩) (by assumption) ?_
      rotate_left 1
      · (intro w' hSw; (try dsimp only at hSw); go_simp; try with_reducible rfl)
      try simp only [Act.put, List.setIfInBounds_toArray, List.set_cons_zero, List.set_cons_succ, List.getElem_toArray, List.getElem_cons_succ, List.getElem_cons_zero]
      refine late_take (i := 18) (v := ?_) rfl (by kernel_rfl) (by kernel_rfl) (by kernel_rfl) (by kernel_rfl) (fun _ _ _ h => h) (Or.inl ⟨by rfl, ?_⟩) (by assumption) ?_
      rotate_left 1
      · (intro w' hSw; (try dsimp only at hSw); go_simp; try with_reducible rfl)
      try simp only [Act.put, List.setIfInBounds_toArray, List.set_cons_zero, List.set_cons_succ, List.getElem_toArray, List.getElem_cons_succ, List.getElem_cons_zero]
      refine late_one (i := 19) (by kernel_rfl) rfl (fun K hK => ?_)
      go_simp
      (refine (HRP _).mono ?_; rintro e vb ⟨rfl, hba⟩; have hba := undrew hba; have D2 : Hid (RtSt w vb b2 (.slice aT S.length cT) (.slice (some ⟨bo, oo, none⟩) S.length cO) (.slice (some ⟨bp, op, none⟩) S.length cP) gS dS gO dO gP dP S X1 Y) := D1.out.next r3 hba; have hSa := hSof2.out _ D2.out; have ⟨⟨y0, y1, y2, y3⟩, yf⟩ := fill_at D2.out.fP hkY; simp only [])
      refine hK.out _ _ (by assumption) (fun _ => ?_)
      try simp only [Act.put, List.setIfInBounds_toArray, List.set_cons_zero, List.set_cons_succ, List.getElem_toArray, List.getElem_cons_succ, List.getElem_cons_zero]
      refine late_take (i := 20) (v := ?_) rfl (by kernel_rfl) (by kernel_rfl) (by kernel_rfl) (by kernel_rfl) (fun _ _ _ h => h) (Or.inl ⟨by rfl, ?_⟩) (by assumption) ?_
      rotate_left 1
      · (intro w' hSw; (try dsimp only at hSw); go_simp; try with_reducible rfl)
      try simp only [Act.put, List.setIfInBounds_toArray, List.set_cons_zero, List.set_cons_succ, List.getElem_toArray, List.getElem_cons_succ, List.getElem_cons_zero]
      refine late_last (by kernel_rfl) rfl (by kernel_rfl) (fun K hK => ?_)
      go_simp
      refine hK.out _ _ ?_
      try simp only [Act.put, List.setIfInBounds_toArray, List.set_cons_zero, List.set_cons_succ, List.getElem_toArray, List.getElem_cons_succ, List.getElem_cons_zero]
      have D3 : Hid (RtSt w (putQ vb gP (k * 4) (j1, j2, j3, j4)) b2 (.slice aT S.length cT) (.slice (some ⟨bo, oo, none⟩) S.length cO) (.slice (some ⟨bp, op, none⟩) S.length cP) gS dS gO dO gP dP S X1 (Y.set k (j1, j2, j3, j4))) := D2.out.putP r3 hkY (j1, j2, j3, j4)
      obtain ⟨V2, hV⟩ : ∃ V, putQ vb gP (k * 4) (j1, j2, j3, j4) = V := ⟨_, rfl⟩
      have hV' : (((vb.setCell ⟨gP, k * 4, none⟩ (.int .i64 j1)).setCell ⟨gP, k * 4 + 1, none⟩ (.int .i64 j2)).setCell ⟨gP, k * 4 + 2, none⟩ (.int .i64 j3)).setCell ⟨gP, k * 4 + 3, none⟩ (.int .i64 j4) = V2 := hV
      rw [hV']
      rw [hV] at D3
      clear hV hV'
      go_wp2
      go_roundw
      case rel => exact ⟨k + 1, X1, _, by go_num, by omega, HX1, HS2, D3⟩
      case measure => first | (simp [intOf]; done) | (simp [intOf]; omega)
    · have e : k = S.length := by omega
      subst e
      have HEX : Hid (X = movO S O now) := by rw [HX.out]; show mixR _ _ _ = _; unfold mixR; rw [List.drop_eq_nil_of_le (by have := HLO.out; omega), List.append_nil, ← movO_length (now := now) HLO.out, List.take_length]
      have HEY : Hid (Y = movP S P now) := by rw [HY.out]; show mixR _ _ _ = _; unfold mixR; rw [List.drop_eq_nil_of_le (by have := HLP.out; omega), List.append_nil, ← movP_length (now := now) HLP.out, List.take_length]
      have ⟨_, _, _, ⟨_, q3⟩, ⟨_, q4⟩, ⟨_, q5⟩, ⟨_, q6⟩, ⟨_, q7⟩, ⟨_, q8⟩, _⟩ := D.out.kept.cells
      rw [HLX.out] at q7
      rw [HLY.out] at q8
      have fr := (D.out.kept.free (w.heap.size + 1) (List.mem_singleton.2 rfl)).2
      have n1 : w.heap.size + 1 ≠ b2 := by have := r3.lb; omega
      go_wp2
      refine bodyPost_ret (results_two rfl _ _ _ [.slice (some ⟨gS, 0, none⟩) S.length dS, .slice (some ⟨gO, 0, none⟩) S.length dO, .slice (some ⟨gP, 0, none⟩) S.length dP] rfl (set_three (u0 := .slice none 0 0) (u1 := .slice none 0 0) (u2 := .slice none 0 0) _ _ _ q3 q4 q5) Try.underlying27 rfl (by kernel_rfl)) rfl ?_
      have l1 := r3.lS
      have l2 := r3.lO
      have l3 := r3.lP
      have zS := D.out.zS
      have zO := D.out.zO
      have zP := D.out.zP
      have fS := ((D.out.fS.far (.slice (some ⟨gS, 0, none⟩) S.length dS) (p := ⟨w.heap.size + 1, 0, none⟩) (by simp only; omega)).far (.slice (some ⟨gO, 0, none⟩) S.length dO) (p := ⟨w.heap.size + 1, 1, none⟩) (by simp only; omega)).far (.slice (some ⟨gP, 0, none⟩) S.length dP) (p := ⟨w.heap.size + 1, 2, none⟩) (by simp only; omega)
      have fO := ((D.out.fO.far (.slice (some ⟨gS, 0, none⟩) S.length dS) (p := ⟨w.heap.size + 1, 0, none⟩) (by simp only; omega)).far (.slice (some ⟨gO, 0, none⟩) S.length dO) (p := ⟨w.heap.size + 1, 1, none⟩) (by simp only; omega)).far (.slice (some ⟨gP, 0, none⟩) S.length dP) (p := ⟨w.heap.size + 1, 2, none⟩) (by simp only; omega)
      have fP := ((D.out.fP.far (.slice (some ⟨gS, 0, none⟩) S.length dS) (p := ⟨w.heap.size + 1, 0, none⟩) (by simp only; omega)).far (.slice (some ⟨gO, 0, none⟩) S.length dO) (p := ⟨w.heap.size + 1, 1, none⟩) (by simp only; omega)).far (.slice (some ⟨gP, 0, none⟩) S.length dP) (p := ⟨w.heap.size + 1, 2, none⟩) (by simp only; omega)
      rw [← HEX.out, ← HEY.out]
      have hX2 := HLX.out
      have hY2 := HLY.out
      have hO2 := HLO.out
      have hP2 := HLP.out
      refine ⟨_, _, _, _, _, _, _, _, _, rfl, ⟨.inl ⟨gS, dS, rfl, by omega, by simpa using zS, fS, by omega⟩, .inl ⟨gO, dO, by rw [hX2], by omega, by simpa using zO, fO, by omega⟩, .inl ⟨gP, dP, by rw [hY2], by omega, by simpa using zP, fP, by omega⟩, fun g a b => ?_, fun g a b => ?_, fun g a b => ?_⟩, ((D.out.kept.hb.setCell (by simp) _).setCell (by simp) _).setCell (by simp) _⟩
      · have e1 : gS = g := Option.some.inj (room_own a); have e2 : gO = g := Option.some.inj (room_own b); have := r3.so; omega
      · have e1 : gS = g := Option.some.inj (room_own a); have e2 : gP = g := Option.some.inj (room_own b); have := r3.sp; omega
      · have e1 : gO = g := Option.some.inj (room_own a); have e2 : gP = g := Option.some.inj (room_own b); have := r3.oP; omega
theorem specRetree_any {w : World} {aT aO aP aS : Option Addr} (cT cO cP cS : Nat) {T O P S : List Q4} (now : Int) (hT : Quad w.heap.size w aT T) (hO : Quad w.heap.size w aO O) (hP : Quad w.heap.size w aP P) (hS : Quad w.heap.size w aS S) : Calls Try.prog 17 #[lendV aT T.length cT aO O.length cO aP P.length cP, .slice aS S.length cS, .int .i64 now] w (NewPost w (retT T O P S now) (retO T O P S now) (retP T O P S now) (movB T O P S now)) := by
  cases hn : movB T O P S now
  · have e : retT T O P S now = [] ∧ retO T O P S now = [] ∧ retP T O P S now = [] := by unfold retT retO retP; rw [hn]; exact ⟨rfl, rfl, rfl⟩
    rw [e.1, e.2.1, e.2.2]
    exact specRetree_no cT cO cP cS now hT hO hP hS hn
  · have e : retT T O P S now = S ∧ retO T O P S now = movO S O now ∧ retP T O P S now = movP S P now := by unfold retT retO retP; rw [hn]; exact ⟨rfl, rfl, rfl⟩
    rw [e.1, e.2.1, e.2.2]
    exact specRetree_yes cT cO cP cS now hT hO hP hS hn
end Go.Proofs.Ytmophpbfaonfmad

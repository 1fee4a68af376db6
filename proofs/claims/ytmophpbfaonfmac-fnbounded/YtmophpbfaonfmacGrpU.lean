/- Lemmas on the way, of several texts: ImplFull, ImplMoved. -/
import Derived.Test.YtmophpbfaonfmacImplRight
import Derived.Test.YtmophpbfaonfmacGrpO
import Derived.Test.YtmophpbfaonfmacLate
import Derived.Test.YtmophpbfaonfmacGrpN
namespace Go.Proofs.Ytmophpbfaonfmac
open Go.ChangeShapes Go.WideShapes Go.ChangeAt Go.RowKit
set_option maxRecDepth 100000
set_option linter.unusedVariables false
set_option linter.unusedSimpArgs false

/-- A Lend made anew. -/
def LendPost (w : World) (T O P : List Q4) (e : Ending) (w' : World) : Prop := ∃ a1 n1 c1 a2 n2 c2 a3 n3 c3, e = .returned (lendV a1 n1 c1 a2 n2 c2 a3 n3 c3) ∧ LV w' w.heap.size (.slice a1 n1 c1) (.slice a2 n2 c2) (.slice a3 n3 c3) T O P ∧ Below w.heap.size w w'
def RowQ (w : World) (N : List Q4) (e : Ending) (w' : World) : Prop := ∃ v, e = .returned v ∧ w'.ownsRow w.heap.size 61 4 v N.length (flatQ N) ∧ Below w.heap.size w w'
set_option maxHeartbeats 2000000 in
theorem cloneC_any {w : World} {b off : Nat} (cap : Nat) {xs : List Q4} (h : Quad w.heap.size w (some ⟨b, off, none⟩) xs) (hl : xs.length ≤ 1000) :
    Calls Try.prog 127 #[.slice (some ⟨b, off, none⟩) xs.length cap] w (RowQ w xs) := by
  obtain ⟨i0, hi, hz0, hz1, hz2⟩ := info_parts info_class
  have q : ∀ (w : World) (a : Option Addr) (n c n' c' : Nat), (binOp .eql 53 (.slice a n c) (.slice none n' c')).run Try.prog w = .ok (.bool a.isNone) w := fun w a n c n' c' => Lib.run_eql_slice_nil w _ _ a n c n' c' Try.underlying53
  have A : Hid (∀ j u, (flatQ xs)[j]? = some u → (w.alloc (.cells #[] 61)).cell? ((⟨b, off, none⟩ : Addr).add j) = some u) := quad_news (h.here (new_below _ _))
  go_enter Try.func127, Try.ntmps127
  go_wp2_with (at_builtin; refine wpList_append_own _ rfl _ _ 53 rfl w.heap.size 61 i0 _ 4 32 Try.underlying53 hi hz0 hz1 hz2 rfl (by decide) _ 0 [] rfl (own_noneQ w _ (Nat.le_refl _) _) ⟨b, off, none⟩ xs.length cap (flatQ xs) rfl (flatQ_length xs) A.out (flatQ_cell xs) (by unfold maxLen; omega) (by omega) (by simp) ?_; intro v' w1 hown hgr hnil)
  go_ret
  exact ⟨v', rfl, by simpa using hown, ((Below.refl _ w).alloc (Nat.le_refl _) _).grown hgr (by simp) (fun k hk => Nat.le_of_eq (Option.some.inj hk))⟩
theorem zero3 (w : World) : Kept w [(w.heap.size, 0, .slice none 0 0), (w.heap.size, 1, .slice none 0 0), (w.heap.size, 2, .slice none 0 0)] [w.heap.size] (w.alloc (.cells #[.slice none 0 0, .slice none 0 0, .slice none 0 0] 64)) :=
  ⟨⟨⟨by simp, by go_simp⟩, ⟨by simp, by go_simp⟩, ⟨by simp, by go_simp⟩, trivial⟩, (fun b hb => by rw [show b = w.heap.size by simpa using hb]; exact ⟨by simp, fun o => by go_simp⟩), new_below _ _⟩
/-- The answer's place is there; the tree has been cloned; the Lend's variable is laid. -/
theorem nl_start {w w2 w3 : World} {aV : Option Addr} {cV : Nat} {T : List Q4} (k : Kept w [(w.heap.size, 0, .slice none 0 0), (w.heap.size, 1, .slice none 0 0), (w.heap.size, 2, .slice none 0 0)] [w.heap.size] w2) (hs : w.heap.size + 1 ≤ w2.heap.size) (ho : w3.ownsRow w2.heap.size 61 4 (.slice aV T.length cV) T.length (flatQ T)) (hb : Below w2.heap.size w2 w3) :
    NlSt w (w3.alloc (.cells #[.slice aV T.length cV, .slice none 0 0, .slice none 0 0] 64)) w3.heap.size (.slice aV T.length cV) (.slice none 0 0) (.slice none 0 0) T [] [] := by
  have K5 := (k.next hb).next (new_below w3 (.cells #[.slice aV T.length cV, .slice none 0 0, .slice none 0 0] 64))
  obtain ⟨⟨e0, e1, e2, _⟩, hf, hbb⟩ := K5
  have hz := hb.size
  refine ⟨⟨⟨e0, e1, e2, ⟨by simp, by go_simp⟩, ⟨by simp, by go_simp⟩, ⟨by simp, by go_simp⟩, trivial⟩, (fun b hb => by simp only [List.mem_cons, List.not_mem_nil, or_false] at hb; rcases hb with rfl | rfl; exact hf _ (List.mem_singleton.2 rfl); exact ⟨by simp, fun o => by go_simp⟩), hbb⟩, row_lowC (ho.alloc _) hs, World.ownsRow_nil _ _ _ _, World.ownsRow_nil _ _ _ _, (fun g e => by cases e), by omega, by simp, (fun e => by have := (ho.lt _ e).2; omega), (fun e => by cases e), (fun e => by cases e)⟩
/-- A class in a variable of its own stays there while a row grows, and while the Lend's variable is stored into. -/
theorem side_row {W W' : World} {c : Nat} {row : Option Nat} {u0 u1 u2 : Value} (hc : Cells W [(c, 1, u0), (c, 2, u1), (c, 3, u2)]) (hg : W.grownBy W' row) (h1 : row ≠ some c) : Cells W' [(c, 1, u0), (c, 2, u1), (c, 3, u2)] := by
  refine Cells.onlyO (OnlyO.of_grown hg) (fun x hx e => ?_) hc
  simp only [List.mem_cons, List.not_mem_nil, or_false] at hx
  rcases hx with rfl | rfl | rfl <;> exact h1 e
theorem cls_good {T : List Q4} (htr : IsTree T) : ∀ k (h : k < T.length), rateB T[k].2.1 = true ∧ rateB T[k].2.2.1 = true ∧ winB T[k].2.2.2 = true := fun k h => by
  have hk := htr.sound.cls k h
  unfold clsB at hk
  simp only [Bool.and_eq_true] at hk
  refine ⟨hk.1.1.1.1, hk.1.1.1.2, ?_⟩
  have hu := hk.2
  unfold burB at hu
  unfold winB
  rw [Bool.and_eq_true] at hu ⊢
  have := of_decide_eq_true hu.1
  exact ⟨decide_eq_true (by omega), hu.2⟩
end Go.Proofs.Ytmophpbfaonfmac
namespace Go.Proofs.Ytmophpbfaonfmac
open Go.ChangeShapes Go.WideShapes Go.ChangeAt Go.RowKit
set_option maxRecDepth 100000
set_option linter.unusedVariables false
set_option linter.unusedSimpArgs false

theorem iReset_is {b : Q4} {now r u y1 y2 y3 y4 : Int} (h : resetQ now r u b = (y1, y2, y3, y4)) (w : World) : Calls Try.prog 15 #[.agg #[.int .i64 b.1, .int .i64 b.2.1, .int .i64 b.2.2.1, .int .i64 b.2.2.2], .int .i64 r, .int .i64 u, .int .i64 now] w fun e w' => e = .returned (.agg #[.int .i64 y1, .int .i64 y2, .int .i64 y3, .int .i64 y4]) ∧ Below w.heap.size w w' := by
  have k := implReset_any b.1 b.2.1 b.2.2.1 b.2.2.2 r u now w
  unfold resetQ at h
  rw [h] at k
  exact k
set_option maxHeartbeats 16000000 in
theorem movedTo_off {w : World} {aT aO aP aS : Option Addr} (cT cO cP cS : Nat) {T O P S : List Q4} (now : Int) (hT : Quad w.heap.size w aT T) (hO : Quad w.heap.size w aO O) (hP : Quad w.heap.size w aP P) (hS : Quad w.heap.size w aS S) (hoff : lendB T O P = false ∨ ¬ treeCode S = 0 ∨ ¬ S.length = T.length) :
    Calls Try.prog 98 #[lendV aT T.length cT aO O.length cO aP P.length cP, .slice aS S.length cS, .int .i64 now] w fun e w' => e = gaveUp ∧ Below w.heap.size w w' := by
  have nb : Below w.heap.size w ((w.alloc (.cells #[.slice aT T.length cT, .slice aO O.length cO, .slice aP P.length cP] 64)).alloc (.cells #[.slice none 0 0, .slice none 0 0, .slice none 0 0] 64)) := by go_grown
  have C0 : Hid (Cells ((w.alloc (.cells #[.slice aT T.length cT, .slice aO O.length cO, .slice aP P.length cP] 64)).alloc (.cells #[.slice none 0 0, .slice none 0 0, .slice none 0 0] 64)) [(w.heap.size, 0, .slice aT T.length cT)]) := ⟨⟨by simp <;> omega, by go_simp⟩, trivial⟩
  cases hl : lendB T O P
  · clear hoff
    go_enter Try.func98, Try.ntmps98
    go_wp2_with (first | (go_at_call 106; refine (right_no cT cO cP hl (hT.here nb) (hO.here nb) (hP.here nb)).mono ?_; rintro e w2 ⟨rfl, hb2⟩))
    exact ⟨rfl, rfl, below_step nb hb2⟩
  by_cases hc : treeCode S = 0
  rotate_left
  · have hc' : (treeCode S == 0) = false := by simp [hc]
    clear hoff
    go_enter Try.func98, Try.ntmps98
    go_wp2_with (first | (go_at_call 106; refine (right_yes cT cO cP hl (hT.here nb) (hO.here nb) (hP.here nb)).mono ?_; rintro e w2 ⟨rfl, hb2⟩; have hb2w := below_step nb hb2) | (go_at_call 34; refine (iTree_any cS (hS.here hb2w)).mono ?_; rintro e w4 ⟨rfl, hb4⟩) | (go_at_call 126; refine (insist_off _).mono ?_; rintro e w3 ⟨rfl, rfl⟩))
    exact ⟨rfl, rfl, below_step hb2w hb4⟩
  have hls : ¬ S.length = T.length := by rcases hoff with h | h | h; rw [hl] at h; cases h; exact absurd hc h; exact h
  have hls' : ((S.length : Int) == (T.length : Int)) = false := by rw [beq_eq_false_iff_ne]; omega
  clear hoff
  go_enter Try.func98, Try.ntmps98
  go_wp2_with (first | (go_at_call 106; refine (right_yes cT cO cP hl (hT.here nb) (hO.here nb) (hP.here nb)).mono ?_; rintro e w2 ⟨rfl, hb2⟩; have hb2w := below_step nb hb2) | (go_at_call 34; refine (iTree_is cS hc (hS.here hb2w)).mono ?_; rintro e w4 ⟨rfl, hb4⟩; have ⟨⟨_, j0⟩, _⟩ := Cells.next hb4 (Cells.next hb2 C0.out)) | (go_at_call 126; refine (insist_off _).mono ?_; rintro e w3 ⟨rfl, rfl⟩))
  exact ⟨rfl, rfl, below_step hb2w hb4⟩
set_option maxHeartbeats 16000000 in
theorem movedTo_on {w : World} {aT aO aP aS : Option Addr} (cT cO cP cS : Nat) {T O P S : List Q4} (now : Int) (hT : Quad w.heap.size w aT T) (hO : Quad w.heap.size w aO O) (hP : Quad w.heap.size w aP P) (hS : Quad w.heap.size w aS S) (hl : lendB T O P = true) (hc : treeCode S = 0) (hls : S.length = T.length) :
    Calls Try.prog 98 #[lendV aT T.length cT aO O.length cO aP P.length cP, .slice aS S.length cS, .int .i64 now] w fun e w' => (movB T O P S now = true ∧ LendPost w S (movO S O now) (movP S P now) e w') ∨ (movB T O P S now = false ∧ e = gaveUp ∧ Below w.heap.size w w') := by
  have HL := lend_of hl
  have HLO : Hid (O.length = S.length) := HL.lo.trans hls.symm
  have HLP : Hid (P.length = S.length) := HL.lp.trans hls.symm
  have HLT : Hid (T.length = S.length) := hls.symm
  have ht := tree_of hc
  have h30 := ht.l1
  have h01 := ht.l0
  have h0O : 0 < O.length := by have := HLO.out; omega
  have h0P : 0 < P.length := by have := HLP.out; omega
  have h0S : 0 < S.length := by omega
  have hTi : (S.length : Int) ≤ 30 := by omega
  have hT0 : (0 : Int) < (S.length : Int) := by omega
  obtain ⟨A, hA⟩ : ∃ A, O[0].2.2.2 = A := ⟨_, rfl⟩
  have HA : Hid (atOf O = A) := by
    show atOf O = A
    unfold atOf
    rw [List.getElem?_eq_getElem h0O, ← hA]
  clear HL ht
  obtain ⟨bo, oo, rfl, hbo, qA0⟩ := hO 0 h0O
  obtain ⟨bp, op, rfl, hbp, -⟩ := hP 0 h0P
  obtain ⟨bs, os, rfl, hbs, -⟩ := hS 0 h0S
  have qA : w.cell? ⟨bo, oo + 3, none⟩ = some (.int .i64 A) := by rw [← hA]; simpa using qA0.2.2.2
  clear hA qA0
  have hl1 : Hid (∀ {W : World}, Quad W.heap.size W aT T → Quad W.heap.size W (some ⟨bo, oo, none⟩) O → Quad W.heap.size W (some ⟨bp, op, none⟩) P → Calls Try.prog 106 #[lendV aT S.length cT (some ⟨bo, oo, none⟩) S.length cO (some ⟨bp, op, none⟩) S.length cP] W fun e w' => e = .returned (.tuple #[]) ∧ Below W.heap.size W w') := fun a b c => (by have h := right_yes cT cO cP hl a b c; rw [HLO.out, HLP.out, HLT.out] at h; exact h)
  have HMO : Hid (movB T O P S now = (decide (A ≤ now) && decide (now ≤ 1000000000000000))) := by
    unfold movB
    rw [hl, decide_eq_true hc, decide_eq_true hls, HA.out]
    rfl
  rw [HLO.out, HLP.out, HLT.out]
  clear hl hls
  have nb : Below w.heap.size w ((w.alloc (.cells #[.slice aT S.length cT, .slice (some ⟨bo, oo, none⟩) S.length cO, .slice (some ⟨bp, op, none⟩) S.length cP] 64)).alloc (.cells #[.slice none 0 0, .slice none 0 0, .slice none 0 0] 64)) := by go_grown
  have C0 : Hid (Cells ((w.alloc (.cells #[.slice aT S.length cT, .slice (some ⟨bo, oo, none⟩) S.length cO, .slice (some ⟨bp, op, none⟩) S.length cP] 64)).alloc (.cells #[.slice none 0 0, .slice none 0 0, .slice none 0 0] 64)) [(w.heap.size, 0, .slice aT S.length cT), (w.heap.size, 1, .slice (some ⟨bo, oo, none⟩) S.length cO), (w.heap.size, 2, .slice (some ⟨bp, op, none⟩) S.length cP)]) := ⟨⟨by simp <;> omega, by go_simp⟩, ⟨by simp <;> omega, by go_simp⟩, ⟨by simp <;> omega, by go_simp⟩, trivial⟩
  cases hn : (decide (A ≤ now) && decide (now ≤ 1000000000000000))
  · go_enter Try.func98, Try.ntmps98
    go_wp2_with (first | (go_at_call 106; refine (hl1.out (hT.here nb) (hO.here nb) (hP.here nb)).mono ?_; rintro e w2 ⟨rfl, hb2⟩; have hb2w := below_step nb hb2) | (go_at_call 34; refine (iTree_is cS hc (hS.here hb2w)).mono ?_; rintro e w4 ⟨rfl, hb4⟩; have hb4w := below_step hb2w hb4; have qA := (hb4w.cell (p := ⟨bo, oo + 3, none⟩) hbo).trans qA; have ⟨⟨_, k0⟩, ⟨_, k1⟩, ⟨_, k2⟩, _⟩ := Cells.next hb4 (Cells.next hb2 C0.out)) | (go_at_call 66; refine (iIn_is hn _).mono ?_; rintro e w5 ⟨rfl, hw5⟩; have hw5 := hw5.symm; subst hw5) | (go_at_call_of 126 true; refine (insist_on _).mono ?_; rintro e w3 ⟨rfl, rfl⟩) | (go_at_call 126; refine (insist_off _).mono ?_; rintro e w3 ⟨rfl, rfl⟩))
    exact ⟨rfl, .inr ⟨by rw [HMO.out]; exact hn, rfl, hb4w⟩⟩
  obtain ⟨iB, hiB, zB0, zB1, zB2⟩ := info_parts info_bucket
  have z0 : ((w.alloc (.cells #[.slice aT S.length cT, .slice (some ⟨bo, oo, none⟩) S.length cO, .slice (some ⟨bp, op, none⟩) S.length cP] 64)).alloc (.cells #[.slice none 0 0, .slice none 0 0, .slice none 0 0] 64)).heap.size = w.heap.size + 2 := by simp
  have cb : Cells (w.alloc (.cells #[.slice aT S.length cT, .slice (some ⟨bo, oo, none⟩) S.length cO, .slice (some ⟨bp, op, none⟩) S.length cP] 64)) [(w.heap.size, 1, .slice (some ⟨bo, oo, none⟩) S.length cO), (w.heap.size, 2, .slice (some ⟨bp, op, none⟩) S.length cP)] := ⟨⟨by simp, by go_simp⟩, ⟨by simp, by go_simp⟩, trivial⟩
  have nb1 : Below w.heap.size w (w.alloc (.cells #[.slice aT S.length cT, .slice (some ⟨bo, oo, none⟩) S.length cO, .slice (some ⟨bp, op, none⟩) S.length cP] 64)) := new_below _ _
  have s1 : (w.alloc (.cells #[.slice aT S.length cT, .slice (some ⟨bo, oo, none⟩) S.length cO, .slice (some ⟨bp, op, none⟩) S.length cP] 64)).heap.size = w.heap.size + 1 := by simp
  obtain ⟨w1, hw1⟩ : ∃ v, (w.alloc (.cells #[.slice aT S.length cT, .slice (some ⟨bo, oo, none⟩) S.length cO, .slice (some ⟨bp, op, none⟩) S.length cP] 64)) = v := ⟨_, rfl⟩
  rw [hw1] at cb nb1 s1
  have CB : Hid (Cells w1 [(w.heap.size, 1, .slice (some ⟨bo, oo, none⟩) S.length cO), (w.heap.size, 2, .slice (some ⟨bp, op, none⟩) S.length cP)]) := cb
  have KW : Hid (Kept w1 [(w1.heap.size, 0, .slice none 0 0), (w1.heap.size, 1, .slice none 0 0), (w1.heap.size, 2, .slice none 0 0)] [w1.heap.size] ((w.alloc (.cells #[.slice aT S.length cT, .slice (some ⟨bo, oo, none⟩) S.length cO, .slice (some ⟨bp, op, none⟩) S.length cP] 64)).alloc (.cells #[.slice none 0 0, .slice none 0 0, .slice none 0 0] 64))) := by rw [hw1]; exact zero3 w1
  have HW1 : Hid (w1.heap.size = w.heap.size + 1) := s1
  clear cb hw1 s1
  go_enter Try.func98, Try.ntmps98
  go_upto_region 5 with (first
    | (go_at_call 106; refine (hl1.out (hT.here nb) (hO.here nb) (hP.here nb)).mono ?_; rintro e w2 ⟨rfl, hb2⟩; have hb2w := below_step nb hb2; have K2 : Hid (Kept w1 _ [w1.heap.size] w2) := KW.out.next hb2)
    | (go_at_call 34; refine (iTree_is cS hc (hS.here hb2w)).mono ?_; rintro e w4 ⟨rfl, hb4⟩; have hb4w := below_step hb2w hb4; have qA := (hb4w.cell (p := ⟨bo, oo + 3, none⟩) hbo).trans qA; have ⟨⟨_, k0⟩, ⟨_, k1⟩, ⟨_, k2⟩, _⟩ := Cells.next hb4 (Cells.next hb2 C0.out); have K4 : Hid (Kept w1 _ [w1.heap.size] w4) := K2.out.next hb4; have z4 := hb4.size)
    | (go_at_call 66; refine (iIn_is hn _).mono ?_; rintro e w5 ⟨rfl, hw5⟩; have hw5 := hw5.symm; subst hw5)
    | (go_at_call 126; refine (insist_on _).mono ?_; rintro e w3 ⟨rfl, rfl⟩)
    | (go_at_call 127; refine (cloneC_any cS (hS.here hb4w) (by omega)).mono ?_; rintro e w6 ⟨v', rfl, hown, hb6⟩; obtain ⟨aV, cV, rfl⟩ := own_slice hown))
  have z2 := hb2.size
  have zs : w1.heap.size + 1 ≤ w4.heap.size := by have := HW1.out; omega
  have hw1s : Hid (w.heap.size + 1 ≤ w1.heap.size ∧ w1.heap.size ≤ w.heap.size + 1) := by have := HW1.out; exact ⟨by omega, by omega⟩
  have D : Hid (NlSt w1 (w6.alloc (.cells #[.slice aV S.length cV, .slice none 0 0, .slice none 0 0] 64)) w6.heap.size (.slice aV S.length cV) (.slice none 0 0) (.slice none 0 0) S [] []) := nl_start K4.out zs hown hb6
  clear K2 K4 KW hown hb2 hb6 hb4 z0 nb C0 z2 z4 zs hb2w hb4w qA k0 k1 k2 hl1
  obtain ⟨v0, hv0⟩ : ∃ v, w6.alloc (.cells #[.slice aV S.length cV, .slice none 0 0, .slice none 0 0] 64) = v := ⟨_, rfl⟩
  rw [hv0] at D ⊢
  obtain ⟨b2, hb2⟩ : ∃ b, w6.heap.size = b := ⟨_, rfl⟩
  rw [hb2] at D ⊢
  clear hv0 hb2
  go_wp2
  go_loopw [37] (fun i wr => ∃ (k : Nat) (X Y : List Q4) (aX : Option Addr) (cX : Nat) (aY : Option Addr) (cY : Nat), i = .int .i64 k ∧ k ≤ S.length ∧ Hid (X = (movO S O now).take k) ∧ Hid (Y = (movP S P now).take k) ∧ Hid (NlSt w1 wr b2 (.slice aV S.length cV) (.slice aX X.length cX) (.slice aY Y.length cY) S X Y)) (fun i _ => S.length - (intOf i).toNat)
  case atStart => exact ⟨0, [], [], none, 0, none, 0, rfl, by omega, rfl, rfl, D⟩
  case round =>
    clear D
    obtain ⟨k, X, Y, aX, cX, aY, cY, rfl, hk, HX, HY, D0⟩ := hrel
    have hbw : Below w.heap.size w wr := below_two nb1 D0.out.kept.hb
    have hlX : X.length ≤ 30 := by rw [HX.out, List.length_take]; omega
    have hlY : Y.length ≤ 30 := by rw [HY.out, List.length_take]; omega
    by_cases hlt : k < S.length
    · have hlt' : (k : Int) < (S.length : Int) := by omega
      have hko : k < O.length := by have := HLO.out; omega
      have hkp : k < P.length := by have := HLP.out; omega
      obtain ⟨x0, x1, x2, x3⟩ := hS.cells hbw k hlt
      have hS1 := movO_next (now := now) hlt hko
      have hS2 := movP_next (now := now) hlt hkp
      obtain ⟨b, hb⟩ : ∃ b, S[k] = b := ⟨_, rfl⟩
      obtain ⟨bq, hbq⟩ : ∃ b, O[k] = b := ⟨_, rfl⟩
      obtain ⟨bpp, hbpp⟩ : ∃ b, P[k] = b := ⟨_, rfl⟩
      rw [hb] at x0 x1 x2 x3 hS1 hS2
      rw [hbq] at hS1
      rw [hbpp] at hS2
      obtain ⟨p, r, c, u⟩ := b
      obtain ⟨q1, q2, q3, q4⟩ := bq
      obtain ⟨p1, p2, p3, p4⟩ := bpp
      simp only at x0 x1 x2 x3 hS1 hS2
      obtain ⟨⟨y1, y2, y3, y4⟩, hy⟩ : ∃ y, resetQ now r u (q1, q2, q3, q4) = y := ⟨_, rfl⟩
      obtain ⟨⟨z1, z2, z3, z4⟩, hz⟩ : ∃ y, resetQ now c u (p1, p2, p3, p4) = y := ⟨_, rfl⟩
      rw [hy, ← HX.out] at hS1
      rw [hz, ← HY.out] at hS2
      have HS1 : Hid ((movO S O now).take (k + 1) = X ++ [(y1, y2, y3, y4)]) := hS1
      have HS2 : Hid ((movP S P now).take (k + 1) = Y ++ [(z1, z2, z3, z4)]) := hS2
      have HRO := fun W : World => iReset_is hy W
      have HRP := fun W : World => iReset_is hz W
      have HEO : Hid (∀ W, Below w.heap.size w W → W.cell? ⟨bo, oo + k * 4, none⟩ = some (.int .i64 q1) ∧ W.cell? ⟨bo, oo + k * 4 + 1, none⟩ = some (.int .i64 q2) ∧ W.cell? ⟨bo, oo + k * 4 + 2, none⟩ = some (.int .i64 q3) ∧ W.cell? ⟨bo, oo + k * 4 + 3, none⟩ = some (.int .i64 q4)) := fun W h => (by have e := hO.cells h k hko; rw [hbq] at e; exact e)
      have HEP : Hid (∀ W, Below w.heap.size w W → W.cell? ⟨bp, op + k * 4, none⟩ = some (.int .i64 p1) ∧ W.cell? ⟨bp, op + k * 4 + 1, none⟩ = some (.int .i64 p2) ∧ W.cell? ⟨bp, op + k * 4 + 2, none⟩ = some (.int .i64 p3) ∧ W.cell? ⟨bp, op + k * 4 + 3, none⟩ = some (.int .i64 p4)) := fun W h => (by have e := hP.cells h k hkp; rw [hbpp] at e; exact e)
      clear hb hbq hbpp hS1 hS2 hy hz hko hkp
      have hbTr : bs < wr.heap.size := Nat.lt_of_lt_of_le hbs hbw.size
      have ⟨⟨_, b1⟩, ⟨_, b2'⟩, _⟩ := Cells.next D0.out.kept.hb CB.out
      have zw0 : w.heap.size < wr.heap.size := by have := D0.out.kept.hb.size; have := hw1s.out; omega
      go_upto_region 8 with (fail)
      have C0 : Hid (Cells (wr.alloc (.cells #[.int .i64 p, .int .i64 r, .int .i64 c, .int .i64 u] 61)) [(wr.heap.size, 1, .int .i64 r), (wr.heap.size, 2, .int .i64 c), (wr.heap.size, 3, .int .i64 u)]) := ⟨⟨by simp, by go_simp⟩, ⟨by simp, by go_simp⟩, ⟨by simp, by go_simp⟩, trivial⟩
      obtain ⟨wx, hwx⟩ : ∃ v, wr.alloc (.cells #[.int .i64 p, .int .i64 r, .int .i64 c, .int .i64 u] 61) = v := ⟨_, rfl⟩
      have D : Hid (NlSt w1 wx b2 (.slice aV S.length cV) (.slice aX X.length cX) (.slice aY Y.length cY) S X Y) := by rw [← hwx]; exact D0.out.next (new_below _ _)
      have ow1 : ((.slice aX X.length cX) : Value).ownBlock ≠ some wr.heap.size := fun e => by have := (D0.out.rO.lt _ e).2; omega
      have ow2 : ((.slice aY Y.length cY) : Value).ownBlock ≠ some wr.heap.size := fun e => by have := (D0.out.rP.lt _ e).2; omega
      have zc : wr.heap.size ≠ b2 := by have := D0.out.sz; omega
      rw [hwx] at C0 ⊢
      clear hwx D0 x0 x1 x2 x3 hbTr b1 b2' zw0
      obtain ⟨c0, hc0⟩ : ∃ c, wr.heap.size = c := ⟨_, rfl⟩
      rw [hc0] at C0 ow1 ow2 zc ⊢
      clear hc0
      have hSof : Hid (∀ W, Kept w1 [(w1.heap.size, 0, .slice none 0 0), (w1.heap.size, 1, .slice none 0 0), (w1.heap.size, 2, .slice none 0 0), (b2, 0, .slice aV S.length cV), (b2, 1, (.slice aX X.length cX)), (b2, 2, (.slice aY Y.length cY))] [w1.heap.size, b2] W → Cells W [(c0, 1, .int .i64 r), (c0, 2, .int .i64 c), (c0, 3, .int .i64 u)] → (fun w' => w'.cell? ⟨b2, 1, none⟩ = some (.slice aX X.length cX) ∧ w'.cell? ⟨w.heap.size, 1, none⟩ = some (.slice (some ⟨bo, oo, none⟩) S.length cO) ∧ w'.cell? ⟨bo, oo + k * 4, none⟩ = some (.int .i64 q1) ∧ w'.cell? ⟨bo, oo + k * 4 + 1, none⟩ = some (.int .i64 q2) ∧ w'.cell? ⟨bo, oo + k * 4 + 2, none⟩ = some (.int .i64 q3) ∧ w'.cell? ⟨bo, oo + k * 4 + 3, none⟩ = some (.int .i64 q4) ∧ w'.cell? ⟨c0, 1, none⟩ = some (.int .i64 r) ∧ w'.cell? ⟨c0, 3, none⟩ = some (.int .i64 u)) W) := fun W k hc => (by have ⟨_, _, _, _, ⟨_, e4⟩, _⟩ := k.cells; have ⟨⟨_, e1⟩, _, ⟨_, e3⟩, _⟩ := hc; have ⟨⟨_, f1⟩, _, _⟩ := Cells.next k.hb CB.out; have ⟨g0, g1, g2, g3⟩ := HEO.out W (below_two nb1 k.hb); exact ⟨e4, f1, g0, g1, g2, g3, e1, e3⟩)
      refine region_late (S := fun w' => w'.cell? ⟨b2, 1, none⟩ = some (.slice aX X.length cX) ∧ w'.cell? ⟨w.heap.size, 1, none⟩ = some (.slice (some ⟨bo, oo, none⟩) S.length cO) ∧ w'.cell? ⟨bo, oo + k * 4, none⟩ = some (.int .i64 q1) ∧ w'.cell? ⟨bo, oo + k * 4 + 1, none⟩ = some (.int .i64 q2) ∧ w'.cell? ⟨bo, oo + k * 4 + 2, none⟩ = some (.int .i64 q3) ∧ w'.cell? ⟨bo, oo + k * 4 + 3, none⟩ = some (.int .i64 q4) ∧ w'.cell? ⟨c0, 1, none⟩ = some (.int .i64 r) ∧ w'.cell? ⟨c0, 3, none⟩ = some (.int .i64 u)) 16 (by kernel_rfl) (hSof.out _ D.out.kept.drew (C0.out.next (Below.refl _ _).drew)) (fun hS => ?_)
      refine late_take (i := 0) (v := ?_) rfl (by kernel_rfl) (by kernel_rfl) (by kernel_rfl) (by kernel_rfl) (fun _ _ _ h => h) (Or.inl ⟨by rfl, ?_⟩) (by assumption) ?_
      rotate_left 1
      · (intro w' hSw; (try dsimp only at hSw); go_simp; try with_reducible rfl)
      try simp only [Act.put, List.setIfInBounds_toArray, List.set_cons_zero, List.set_cons_succ, List.getElem_toArray, List.getElem_cons_succ, List.getElem_cons_zero]
      refine late_take (i := 1) (v := ?_) rfl (by kernel_rfl) (by kernel_rfl) (by kernel_rfl) (by kernel_rfl) (fun _ _ _ h => h) (Or.inl ⟨by rfl, ?_⟩) (by assumption) ?_
      rotate_left 1
      · (intro w' hSw; (try dsimp only at hSw); go_simp; try with_reducible rfl)
      try simp only [Act.put, List.setIfInBounds_toArray, List.set_cons_zero, List.set_cons_succ, List.getElem_toArray, List.getElem_cons_succ, List.getElem_cons_zero]
      refine late_take (i := 2) (v := ?_) rfl (by kernel_rfl) (by kernel_rfl) (by kernel_rfl) (by kernel_rfl) (fun _ _ _ h => h) (Or.inl ⟨by rfl, ?_⟩) (by assumption) ?_
      rotate_left 1
      · (intro w' hSw; (try dsimp only at hSw); go_simp; try with_reducible rfl)
      try simp only [Act.put, List.setIfInBounds_toArray, List.set_cons_zero, List.set_cons_succ, List.getElem_toArray, List.getElem_cons_succ, List.getElem_cons_zero]
      refine late_take (i := 3) (v := ?_) rfl (by kernel_rfl) (by kernel_rfl) (by kernel_rfl) (by kernel_rfl) (fun _ _ _ h => h) (Or.inl ⟨by rfl, ?_⟩) (by assumption) ?_
      rotate_left 1
      · (intro w' hSw; (try dsimp only at hSw); go_simp; try with_reducible rfl)
      try simp only [Act.put, List.setIfInBounds_toArray, List.set_cons_zero, List.set_cons_succ, List.getElem_toArray, List.getElem_cons_succ, List.getElem_cons_zero]
      refine late_take (i := 4) (v := ?_) rfl (by kernel_rfl) (by kernel_rfl) (by kernel_rfl) (by kernel_rfl) (fun _ _ _ h => h) (Or.inl ⟨by rfl, ?_⟩) (by assumption) ?_
      rotate_left 1
      · (intro w' hSw; (try dsimp only at hSw); go_simp; try with_reducible rfl)
      try simp only [Act.put, List.setIfInBounds_toArray, List.set_cons_zero, List.set_cons_succ, List.getElem_toArray, List.getElem_cons_succ, List.getElem_cons_zero]
      refine late_take (i := 5) (v := ?_) rfl (by kernel_rfl) (by kernel_rfl) (by kernel_rfl) (by kernel_rfl) (fun _ _ _ h => h) (Or.inl ⟨by rfl, ?_⟩) (by assumption) ?_
      rotate_left 1
      · (intro w' hSw; (try dsimp only at hSw); go_simp; try with_reducible rfl)
      try simp only [Act.put, List.setIfInBounds_toArray, List.set_cons_zero, List.set_cons_succ, List.getElem_toArray, List.getElem_cons_succ, List.getElem_cons_zero]
      refine late_take (i := 6) (v := ?_) rfl (by kernel_rfl) (by kernel_rfl) (by kernel_rfl) (by kernel_rfl) (fun _ _ _ h => h) (Or.inl ⟨by rfl, ?_⟩) (by assumption) ?_
      rotate_left 1
      · (intro w' hSw; (try dsimp only at hSw); go_simp; try with_reducible rfl)
      try simp only [Act.put, List.setIfInBounds_toArray, List.set_cons_zero, List.set_cons_succ, List.getElem_toArray, List.getElem_cons_succ, List.getElem_cons_zero]
      refine late_take (i := 7) (v := ?_) rfl (by kernel_rfl) (by kernel_rfl) (by kernel_rfl) (by kernel_rfl) (fun _ _ _ h => h) (Or.inl ⟨by rfl, ?_⟩) (by assumption) ?_
      rotate_left 1
      · (intro w' hSw; (try dsimp only at hSw); go_simp; try with_reducible rfl)
      try simp only [Act.put, List.setIfInBounds_toArray, List.set_cons_zero, List.set_cons_succ, List.getElem_toArray, List.getElem_cons_succ, List.getElem_cons_zero]
      refine late_take (i := 8) (v := ?_) rfl (by kernel_rfl) (by kernel_rfl) (by kernel_rfl) (by kernel_rfl) (fun _ _ _ h => h) (Or.inl ⟨by rfl, ?_⟩) (by assumption) ?_
      rotate_left 1
      · (intro w' hSw; (try dsimp only at hSw); go_simp; try with_reducible rfl)
      try simp only [Act.put, List.setIfInBounds_toArray, List.set_cons_zero, List.set_cons_succ, List.getElem_toArray, List.getElem_cons_succ, List.getElem_cons_zero]
      refine late_take (i := 9) (v := ?_) rfl (by kernel_rfl) (by kernel_rfl) (by kernel_rfl) (by kernel_rfl) (fun _ _ _ h => h) (Or.inl ⟨by rfl, ?_⟩) (by assumption) ?_
      rotate_left 1
      · (intro w' hSw; (try dsimp only at hSw); go_simp; try with_reducible rfl)
      try simp only [Act.put, List.setIfInBounds_toArray, List.set_cons_zero, List.set_cons_succ, List.getElem_toArray, List.getElem_cons_succ, List.getElem_cons_zero]
      refine late_take (i := 10) (v := ?_) rfl (by kernel_rfl) (by kernel_rfl) (by kernel_rfl) (by kernel_rfl) (fun _ _ _ h => h) (Or.inl ⟨by rfl, ?_⟩) (by assumption) ?_
      rotate_left 1
      · (intro w' hSw; (try dsimp only at hSw); go_simp; try with_reducible rfl)
      try simp only [Act.put, List.setIfInBounds_toArray, List.set_cons_zero, List.set_cons_succ, List.getElem_toArray, List.getElem_cons_succ, List.getElem_cons_zero]
      refine late_take (i := 11) (v := ?_) rfl (by kernel_rfl) (by kernel_rfl) (by kernel_rfl) (by kernel_rfl) (fun _ _ _ h => h) (Or.inl ⟨by rfl, ?_⟩) (by assumption) ?_
      rotate_left 1
      · (intro w' hSw; (try dsimp only at hSw); go_simp; try with_reducible rfl)
      try simp only [Act.put, List.setIfInBounds_toArray, List.set_cons_zero, List.set_cons_succ, List.getElem_toArray, List.getElem_cons_succ, List.getElem_cons_zero]
      refine late_one (i := 12) (by kernel_rfl) rfl (fun K hK => ?_)
      go_simp
      (refine (HRO _).mono ?_; rintro e va ⟨rfl, hba⟩; have hba := undrew hba; have D2 : Hid (NlSt w1 va b2 (.slice aV S.length cV) (.slice aX X.length cX) (.slice aY Y.length cY) S X Y) := D.out.next hba; have C2 : Hid (Cells va [(c0, 1, .int .i64 r), (c0, 2, .int .i64 c), (c0, 3, .int .i64 u)]) := C0.out.next hba; have hS := hSof.out _ D2.out.kept C2.out; simp only [])
      refine hK.out _ _ (by assumption) (fun _ => ?_)
      try simp only [Act.put, List.setIfInBounds_toArray, List.set_cons_zero, List.set_cons_succ, List.getElem_toArray, List.getElem_cons_succ, List.getElem_cons_zero]
      refine late_one (i := 13) (by kernel_rfl) rfl (fun K hK => ?_)
      go_simp
      have DA : Hid (NlSt w1 (va.alloc (.cells #[.int .i64 y1, .int .i64 y2, .int .i64 y3, .int .i64 y4] 25)) b2 (.slice aV S.length cV) (.slice aX X.length cX) (.slice aY Y.length cY) S X Y) := D2.out.next (new_below _ _)
      have C3 : Hid (Cells (va.alloc (.cells #[.int .i64 y1, .int .i64 y2, .int .i64 y3, .int .i64 y4] 25)) [(c0, 1, .int .i64 r), (c0, 2, .int .i64 c), (c0, 3, .int .i64 u)]) := C2.out.next (new_below _ _)
      refine hK.out _ _ (hSof.out _ DA.out.kept C3.out) (fun hS => ?_)
      try simp only [Act.put, List.setIfInBounds_toArray, List.set_cons_zero, List.set_cons_succ, List.getElem_toArray, List.getElem_cons_succ, List.getElem_cons_zero]
      refine late_one (i := 14) (by kernel_rfl) rfl (fun K hK => ?_)
      rw [if_pos (by rfl)]
      refine wp_append_two _ _ _ 62 rfl (w1.heap.size + 1) 25 iB _ 4 32 Try.underlying62 hiB zB0 zB1 zB2 rfl (by decide) _ _ _ rfl DA.out.rO ⟨va.heap.size, 0, none⟩ 1 1 [.int .i64 y1, .int .i64 y2, .int .i64 y3, .int .i64 y4] rfl rfl (four_newsC (by go_simp) (by go_simp) (by go_simp) (by go_simp)) (flatQ_cell [(y1, y2, y3, y4)]) (by unfold maxLen; omega) (by omega) (by have := DA.out.sz; have := DA.out.lo; omega) (by omega) ?_
      intro v' w5 ho hgr hbl
      obtain ⟨gN, cN, rfl, _, _⟩ := own_someC ho (Nat.le_add_left 1 _)
      have DB : Hid (NlSt w1 (w5.setCell ⟨b2, 1, none⟩ (.slice (some ⟨gN, 0, none⟩) (X.length + 1) cN)) b2 (.slice aV S.length cV) (.slice (some ⟨gN, 0, none⟩) (X.length + 1) cN) (.slice aY Y.length cY) S (X ++ [(y1, y2, y3, y4)]) Y) := DA.out.appO (x := (y1, y2, y3, y4)) hgr ho hbl
      have KK := DA.out.keeps hgr (fun g e => (DA.out.rO.lt g e).1) DA.out.nO
      have C4 : Hid (Cells w5 [(c0, 1, .int .i64 r), (c0, 2, .int .i64 c), (c0, 3, .int .i64 u)]) := side_row C3.out hgr ow1
      have ⟨_, _, _, ⟨_, s3⟩, ⟨_, s4⟩, ⟨_, s5⟩, _⟩ := KK.cells
      have sF := (KK.free b2 (List.mem_cons_of_mem _ (List.mem_singleton.2 rfl))).2
      refine hK.out _ _ (hSof.out _ KK C4.out) (fun hS => ?_)
      clear KK
      try simp only [Act.put, List.setIfInBounds_toArray, List.set_cons_zero, List.set_cons_succ, List.getElem_toArray, List.getElem_cons_succ, List.getElem_cons_zero]
      refine late_take (i := 15) (v := ?_) rfl (by kernel_rfl) (by kernel_rfl) (by kernel_rfl) (by kernel_rfl) (fun _ _ _ h => h) (Or.inl ⟨by rfl, ?_⟩) (by assumption) ?_
      rotate_left 1
      · (intro w' hSw; (try dsimp only at hSw); go_simp; try with_reducible rfl)
      try simp only [Act.put, List.setIfInBounds_toArray, List.set_cons_zero, List.set_cons_succ, List.getElem_toArray, List.getElem_cons_succ, List.getElem_cons_zero]
      refine late_last (by kernel_rfl) rfl (by kernel_rfl) (fun K hK => ?_)
      go_simp
      refine hK.out _ _ ?_
      try simp only [Act.put, List.setIfInBounds_toArray, List.set_cons_zero, List.set_cons_succ, List.getElem_toArray, List.getElem_cons_succ, List.getElem_cons_zero]
      have C9 : Hid (Cells (w5.setCell ⟨b2, 1, none⟩ (.slice (some ⟨gN, 0, none⟩) (X.length + 1) cN)) [(c0, 1, .int .i64 r), (c0, 2, .int .i64 c), (c0, 3, .int .i64 u)]) := side_row C4.out (grown_set w5 b2 1 (.slice (some ⟨gN, 0, none⟩) (X.length + 1) cN)) (fun e => zc (Option.some.inj e).symm)
      clear D D2 DA C0 C2 C3 C4 hSof s3 s4 s5 sF ho hgr hbl
      obtain ⟨v9, hv9⟩ : ∃ v, (w5.setCell ⟨b2, 1, none⟩ (.slice (some ⟨gN, 0, none⟩) (X.length + 1) cN)) = v := ⟨_, rfl⟩
      rw [hv9] at DB C9 ⊢
      clear hv9
      have D : Hid (NlSt w1 v9 b2 (.slice aV S.length cV) (.slice (some ⟨gN, 0, none⟩) (X.length + 1) cN) (.slice aY Y.length cY) S (X ++ [(y1, y2, y3, y4)]) Y) := DB.out
      have C0 := C9
      clear DB C9
      have hSof2 : Hid (∀ W, Kept w1 [(w1.heap.size, 0, .slice none 0 0), (w1.heap.size, 1, .slice none 0 0), (w1.heap.size, 2, .slice none 0 0), (b2, 0, .slice aV S.length cV), (b2, 1, (.slice (some ⟨gN, 0, none⟩) (X.length + 1) cN)), (b2, 2, (.slice aY Y.length cY))] [w1.heap.size, b2] W → Cells W [(c0, 1, .int .i64 r), (c0, 2, .int .i64 c), (c0, 3, .int .i64 u)] → (fun w' => w'.cell? ⟨b2, 2, none⟩ = some (.slice aY Y.length cY) ∧ w'.cell? ⟨w.heap.size, 2, none⟩ = some (.slice (some ⟨bp, op, none⟩) S.length cP) ∧ w'.cell? ⟨bp, op + k * 4, none⟩ = some (.int .i64 p1) ∧ w'.cell? ⟨bp, op + k * 4 + 1, none⟩ = some (.int .i64 p2) ∧ w'.cell? ⟨bp, op + k * 4 + 2, none⟩ = some (.int .i64 p3) ∧ w'.cell? ⟨bp, op + k * 4 + 3, none⟩ = some (.int .i64 p4) ∧ w'.cell? ⟨c0, 2, none⟩ = some (.int .i64 c) ∧ w'.cell? ⟨c0, 3, none⟩ = some (.int .i64 u)) W) := fun W k hc => (by have ⟨_, _, _, _, _, ⟨_, e5⟩, _⟩ := k.cells; have ⟨_, ⟨_, e2⟩, ⟨_, e3⟩, _⟩ := hc; have ⟨_, ⟨_, f2⟩, _⟩ := Cells.next k.hb CB.out; have ⟨g0, g1, g2, g3⟩ := HEP.out W (below_two nb1 k.hb); exact ⟨e5, f2, g0, g1, g2, g3, e2, e3⟩)
      repeat go_step
      refine region_late (S := fun w' => w'.cell? ⟨b2, 2, none⟩ = some (.slice aY Y.length cY) ∧ w'.cell? ⟨w.heap.size, 2, none⟩ = some (.slice (some ⟨bp, op, none⟩) S.length cP) ∧ w'.cell? ⟨bp, op + k * 4, none⟩ = some (.int .i64 p1) ∧ w'.cell? ⟨bp, op + k * 4 + 1, none⟩ = some (.int .i64 p2) ∧ w'.cell? ⟨bp, op + k * 4 + 2, none⟩ = some (.int .i64 p3) ∧ w'.cell? ⟨bp, op + k * 4 + 3, none⟩ = some (.int .i64 p4) ∧ w'.cell? ⟨c0, 2, none⟩ = some (.int .i64 c) ∧ w'.cell? ⟨c0, 3, none⟩ = some (.int .i64 u)) 16 (by kernel_rfl) (hSof2.out _ D.out.kept.drew (C0.out.next (Below.refl _ _).drew)) (fun hS => ?_)
      refine late_take (i := 0) (v := ?_) rfl (by kernel_rfl) (by kernel_rfl) (by kernel_rfl) (by kernel_rfl) (fun _ _ _ h => h) (Or.inl ⟨by rfl, ?_⟩) (by assumption) ?_
      rotate_left 1
      · (intro w' hSw; (try dsimp only at hSw); go_simp; try with_reducible rfl)
      try simp only [Act.put, List.setIfInBounds_toArray, List.set_cons_zero, List.set_cons_succ, List.getElem_toArray, List.getElem_cons_succ, List.getElem_cons_zero]
      refine late_take (i := 1) (v := ?_) rfl (by kernel_rfl) (by kernel_rfl) (by kernel_rfl) (by kernel_rfl) (fun _ _ _ h => h) (Or.inl ⟨by rfl, ?_⟩) (by assumption) ?_
      rotate_left 1
      · (intro w' hSw; (try dsimp only at hSw); go_simp; try with_reducible rfl)
      try simp only [Act.put, List.setIfInBounds_toArray, List.set_cons_zero, List.set_cons_succ, List.getElem_toArray, List.getElem_cons_succ, List.getElem_cons_zero]
      refine late_take (i := 2) (v := ?_) rfl (by kernel_rfl) (by kernel_rfl) (by kernel_rfl) (by kernel_rfl) (fun _ _ _ h => h) (Or.inl ⟨by rfl, ?_⟩) (by assumption) ?_
      rotate_left 1
      · (intro w' hSw; (try dsimp only at hSw); go_simp; try with_reducible rfl)
      try simp only [Act.put, List.setIfInBounds_toArray, List.set_cons_zero, List.set_cons_succ, List.getElem_toArray, List.getElem_cons_succ, List.getElem_cons_zero]
      refine late_take (i := 3) (v := ?_) rfl (by kernel_rfl) (by kernel_rfl) (by kernel_rfl) (by kernel_rfl) (fun _ _ _ h => h) (Or.inl ⟨by rfl, ?_⟩) (by assumption) ?_
      rotate_left 1
      · (intro w' hSw; (try dsimp only at hSw); go_simp; try with_reducible rfl)
      try simp only [Act.put, List.setIfInBounds_toArray, List.set_cons_zero, List.set_cons_succ, List.getElem_toArray, List.getElem_cons_succ, List.getElem_cons_zero]
      refine late_take (i := 4) (v := ?_) rfl (by kernel_rfl) (by kernel_rfl) (by kernel_rfl) (by kernel_rfl) (fun _ _ _ h => h) (Or.inl ⟨by rfl, ?_⟩) (by assumption) ?_
      rotate_left 1
      · (intro w' hSw; (try dsimp only at hSw); go_simp; try with_reducible rfl)
      try simp only [Act.put, List.setIfInBounds_toArray, List.set_cons_zero, List.set_cons_succ, List.getElem_toArray, List.getElem_cons_succ, List.getElem_cons_zero]
      refine late_take (i := 5) (v := ?_) rfl (by kernel_rfl) (by kernel_rfl) (by kernel_rfl) (by kernel_rfl) (fun _ _ _ h => h) (Or.inl ⟨by rfl, ?_⟩) (by assumption) ?_
      rotate_left 1
      · (intro w' hSw; (try dsimp only at hSw); go_simp; try with_reducible rfl)
      try simp only [Act.put, List.setIfInBounds_toArray, List.set_cons_zero, List.set_cons_succ, List.getElem_toArray, List.getElem_cons_succ, List.getElem_cons_zero]
      refine late_take (i := 6) (v := ?_) rfl (by kernel_rfl) (by kernel_rfl) (by kernel_rfl) (by kernel_rfl) (fun _ _ _ h => h) (Or.inl ⟨by rfl, ?_⟩) (by assumption) ?_
      rotate_left 1
      · (intro w' hSw; (try dsimp only at hSw); go_simp; try with_reducible rfl)
      try simp only [Act.put, List.setIfInBounds_toArray, List.set_cons_zero, List.set_cons_succ, List.getElem_toArray, List.getElem_cons_succ, List.getElem_cons_zero]
      refine late_take (i := 7) (v := ?_) rfl (by kernel_rfl) (by kernel_rfl) (by kernel_rfl) (by kernel_rfl) (fun _ _ _ h => h) (Or.inl ⟨by rfl, ?_⟩) (by assumption) ?_
      rotate_left 1
      · (intro w' hSw; (try dsimp only at hSw); go_simp; try with_reducible rfl)
      try simp only [Act.put, List.setIfInBounds_toArray, List.set_cons_zero, List.set_cons_succ, List.getElem_toArray, List.getElem_cons_succ, List.getElem_cons_zero]
      refine late_take (i := 8) (v := ?_) rfl (by kernel_rfl) (by kernel_rfl) (by kernel_rfl) (by kernel_rfl) (fun _ _ _ h => h) (Or.inl ⟨by rfl, ?_⟩) (by assumption) ?_
      rotate_left 1
      · (intro w' hSw; (try dsimp only at hSw); go_simp; try with_reducible rfl)
      try simp only [Act.put, List.setIfInBounds_toArray, List.set_cons_zero, List.set_cons_succ, List.getElem_toArray, List.getElem_cons_succ, List.getElem_cons_zero]
      refine late_take (i := 9) (v := ?_) rfl (by kernel_rfl) (by kernel_rfl) (by kernel_rfl) (by kernel_rfl) (fun _ _ _ h => h) (Or.inl ⟨by rfl, ?_⟩) (by assumption) ?_
      rotate_left 1
      · (intro w' hSw; (try dsimp only at hSw); go_simp; try with_reducible rfl)
      try simp only [Act.put, List.setIfInBounds_toArray, List.set_cons_zero, List.set_cons_succ, List.getElem_toArray, List.getElem_cons_succ, List.getElem_cons_zero]
      refine late_take (i := 10) (v := ?_) rfl (by kernel_rfl) (by kernel_rfl) (by kernel_rfl) (by kernel_rfl) (fun _ _ _ h => h) (Or.inl ⟨by rfl, ?_⟩) (by assumption) ?_
      rotate_left 1
      · (intro w' hSw; (try dsimp only at hSw); go_simp; try with_reducible rfl)
      try simp only [Act.put, List.setIfInBounds_toArray, List.set_cons_zero, List.set_cons_succ, List.getElem_toArray, List.getElem_cons_succ, List.getElem_cons_zero]
      refine late_take (i := 11) (v := ?_) rfl (by kernel_rfl) (by kernel_rfl) (by kernel_rfl) (by kernel_rfl) (fun _ _ _ h => h) (Or.inl ⟨by rfl, ?_⟩) (by assumption) ?_
      rotate_left 1
      · (intro w' hSw; (try dsimp only at hSw); go_simp; try with_reducible rfl)
      try simp only [Act.put, List.setIfInBounds_toArray, List.set_cons_zero, List.set_cons_succ, List.getElem_toArray, List.getElem_cons_succ, List.getElem_cons_zero]
      refine late_one (i := 12) (by kernel_rfl) rfl (fun K hK => ?_)
      go_simp
      (refine (HRP _).mono ?_; rintro e vb ⟨rfl, hba⟩; have hba := undrew hba; have D2 : Hid (NlSt w1 vb b2 (.slice aV S.length cV) (.slice (some ⟨gN, 0, none⟩) (X.length + 1) cN) (.slice aY Y.length cY) S (X ++ [(y1, y2, y3, y4)]) Y) := D.out.next hba; have C2 : Hid (Cells vb [(c0, 1, .int .i64 r), (c0, 2, .int .i64 c), (c0, 3, .int .i64 u)]) := C0.out.next hba; have hS := hSof2.out _ D2.out.kept C2.out; simp only [])
      refine hK.out _ _ (by assumption) (fun _ => ?_)
      try simp only [Act.put, List.setIfInBounds_toArray, List.set_cons_zero, List.set_cons_succ, List.getElem_toArray, List.getElem_cons_succ, List.getElem_cons_zero]
      refine late_one (i := 13) (by kernel_rfl) rfl (fun K hK => ?_)
      go_simp
      have DA : Hid (NlSt w1 (vb.alloc (.cells #[.int .i64 z1, .int .i64 z2, .int .i64 z3, .int .i64 z4] 25)) b2 (.slice aV S.length cV) (.slice (some ⟨gN, 0, none⟩) (X.length + 1) cN) (.slice aY Y.length cY) S (X ++ [(y1, y2, y3, y4)]) Y) := D2.out.next (new_below _ _)
      have C3 : Hid (Cells (vb.alloc (.cells #[.int .i64 z1, .int .i64 z2, .int .i64 z3, .int .i64 z4] 25)) [(c0, 1, .int .i64 r), (c0, 2, .int .i64 c), (c0, 3, .int .i64 u)]) := C2.out.next (new_below _ _)
      refine hK.out _ _ (hSof2.out _ DA.out.kept C3.out) (fun hS => ?_)
      try simp only [Act.put, List.setIfInBounds_toArray, List.set_cons_zero, List.set_cons_succ, List.getElem_toArray, List.getElem_cons_succ, List.getElem_cons_zero]
      refine late_one (i := 14) (by kernel_rfl) rfl (fun K hK => ?_)
      rw [if_pos (by rfl)]
      refine wp_append_two _ _ _ 62 rfl (w1.heap.size + 1) 25 iB _ 4 32 Try.underlying62 hiB zB0 zB1 zB2 rfl (by decide) _ _ _ rfl DA.out.rP ⟨vb.heap.size, 0, none⟩ 1 1 [.int .i64 z1, .int .i64 z2, .int .i64 z3, .int .i64 z4] rfl rfl (four_newsC (by go_simp) (by go_simp) (by go_simp) (by go_simp)) (flatQ_cell [(z1, z2, z3, z4)]) (by unfold maxLen; omega) (by omega) (by have := DA.out.sz; have := DA.out.lo; omega) (by omega) ?_
      intro v' w6 ho hgr hbl
      obtain ⟨gM, cM, rfl, _, _⟩ := own_someC ho (Nat.le_add_left 1 _)
      have DB : Hid (NlSt w1 (w6.setCell ⟨b2, 2, none⟩ (.slice (some ⟨gM, 0, none⟩) (Y.length + 1) cM)) b2 (.slice aV S.length cV) (.slice (some ⟨gN, 0, none⟩) (X.length + 1) cN) (.slice (some ⟨gM, 0, none⟩) (Y.length + 1) cM) S (X ++ [(y1, y2, y3, y4)]) (Y ++ [(z1, z2, z3, z4)])) := DA.out.appP (x := (z1, z2, z3, z4)) hgr ho hbl
      have KK := DA.out.keeps hgr (fun g e => (DA.out.rP.lt g e).1) DA.out.nP
      have C4 : Hid (Cells w6 [(c0, 1, .int .i64 r), (c0, 2, .int .i64 c), (c0, 3, .int .i64 u)]) := side_row C3.out hgr ow2
      have ⟨_, _, _, ⟨_, s3⟩, ⟨_, s4⟩, ⟨_, s5⟩, _⟩ := KK.cells
      have sF := (KK.free b2 (List.mem_cons_of_mem _ (List.mem_singleton.2 rfl))).2
      refine hK.out _ _ (hSof2.out _ KK C4.out) (fun hS => ?_)
      clear KK
      try simp only [Act.put, List.setIfInBounds_toArray, List.set_cons_zero, List.set_cons_succ, List.getElem_toArray, List.getElem_cons_succ, List.getElem_cons_zero]
      refine late_take (i := 15) (v := ?_) rfl (by kernel_rfl) (by kernel_rfl) (by kernel_rfl) (by kernel_rfl) (fun _ _ _ h => h) (Or.inl ⟨by rfl, ?_⟩) (by assumption) ?_
      rotate_left 1
      · (intro w' hSw; (try dsimp only at hSw); go_simp; try with_reducible rfl)
      try simp only [Act.put, List.setIfInBounds_toArray, List.set_cons_zero, List.set_cons_succ, List.getElem_toArray, List.getElem_cons_succ, List.getElem_cons_zero]
      refine late_last (by kernel_rfl) rfl (by kernel_rfl) (fun K hK => ?_)
      go_simp
      refine hK.out _ _ ?_
      try simp only [Act.put, List.setIfInBounds_toArray, List.set_cons_zero, List.set_cons_succ, List.getElem_toArray, List.getElem_cons_succ, List.getElem_cons_zero]
      repeat go_step
      go_roundw
      case rel => exact ⟨k + 1, X ++ [(y1, y2, y3, y4)], Y ++ [(z1, z2, z3, z4)], some ⟨gN, 0, none⟩, cN, some ⟨gM, 0, none⟩, cM, by go_num, by omega, HS1.out.symm, HS2.out.symm, (by rw [List.length_append, List.length_append]; exact DB.out)⟩
      case measure => first | (simp [intOf]; done) | (simp [intOf]; omega)
    · have e : k = S.length := by omega
      subst e
      have D := D0
      have HEX : Hid (X = movO S O now) := by rw [HX.out, ← movO_length (now := now) HLO.out, List.take_length]; exact rfl
      have HEY : Hid (Y = movP S P now) := by rw [HY.out, ← movP_length (now := now) HLP.out, List.take_length]; exact rfl
      have ⟨⟨_, q0⟩, ⟨_, q1⟩, ⟨_, q2⟩, ⟨_, q3⟩, ⟨_, q4⟩, ⟨_, q5⟩, _⟩ := D.out.kept.cells
      have fr := (D.out.kept.free w1.heap.size (List.mem_cons_self ..)).2
      have n1 : w1.heap.size ≠ b2 := by have := D.out.lo; omega
      have hfin := nl_fin D.out (a := .slice aV S.length cV) (b := .slice aX X.length cX) (c := .slice aY Y.length cY)
      have HFI : Hid _ := hfin
      clear hfin
      rw [HW1.out] at q0 q1 q2 fr n1
      go_wp2
      refine bodyPost_ret (results_one rfl _ _ _ [.slice aV S.length cV, .slice aX X.length cX, .slice aY Y.length cY] rfl (set_three (u0 := .slice none 0 0) (u1 := .slice none 0 0) (u2 := .slice none 0 0) _ _ _ q0 q1 q2) Try.underlying64 rfl (by kernel_rfl)) rfl ?_
      have hfin := HFI.out
      rw [HW1.out] at hfin
      rw [← HEX.out, ← HEY.out]
      refine .inl ⟨by rw [HMO.out]; exact hn, _, _, _, _, _, _, _, _, _, rfl, hfin.1.lower (by omega), ?_⟩
      have hfb := below_two nb1 HFI.out.2
      rw [HW1.out] at hfb
      exact hfb
theorem movedTo_walk {w : World} {aT aO aP aS : Option Addr} (cT cO cP cS : Nat) {T O P S : List Q4} (now : Int) (hT : Quad w.heap.size w aT T) (hO : Quad w.heap.size w aO O) (hP : Quad w.heap.size w aP P) (hS : Quad w.heap.size w aS S) :
    Calls Try.prog 98 #[lendV aT T.length cT aO O.length cO aP P.length cP, .slice aS S.length cS, .int .i64 now] w fun e w' => (movB T O P S now = true ∧ LendPost w S (movO S O now) (movP S P now) e w') ∨ (movB T O P S now = false ∧ e = gaveUp ∧ Below w.heap.size w w') := by
  by_cases h : lendB T O P = true ∧ treeCode S = 0 ∧ S.length = T.length
  · exact movedTo_on cT cO cP cS now hT hO hP hS h.1 h.2.1 h.2.2
  · have hoff : lendB T O P = false ∨ ¬ treeCode S = 0 ∨ ¬ S.length = T.length := by
      cases hl : lendB T O P
      · exact .inl rfl
      · by_cases h2 : treeCode S = 0
        · exact .inr (.inr (fun h3 => h ⟨hl, h2, h3⟩))
        · exact .inr (.inl h2)
    refine (movedTo_off cT cO cP cS now hT hO hP hS hoff).mono ?_
    rintro e w' ⟨rfl, hb⟩
    refine .inr ⟨?_, rfl, hb⟩
    rcases hoff with h | h | h
    · exact mov_no1 h
    · exact mov_no2 h
    · exact mov_no3 h
theorem movedTo_yes {w : World} {aT aO aP aS : Option Addr} (cT cO cP cS : Nat) {T O P S : List Q4} (now : Int) (hT : Quad w.heap.size w aT T) (hO : Quad w.heap.size w aO O) (hP : Quad w.heap.size w aP P) (hS : Quad w.heap.size w aS S) (hm : movB T O P S now = true) : Calls Try.prog 98 #[lendV aT T.length cT aO O.length cO aP P.length cP, .slice aS S.length cS, .int .i64 now] w (LendPost w S (movO S O now) (movP S P now)) := (movedTo_walk cT cO cP cS now hT hO hP hS).mono (by
  rintro e w' (⟨_, h⟩ | ⟨h, _⟩)
  · exact h
  · rw [hm] at h; cases h)
theorem movedTo_no {w : World} {aT aO aP aS : Option Addr} (cT cO cP cS : Nat) {T O P S : List Q4} (now : Int) (hT : Quad w.heap.size w aT T) (hO : Quad w.heap.size w aO O) (hP : Quad w.heap.size w aP P) (hS : Quad w.heap.size w aS S) (hm : movB T O P S now = false) : Calls Try.prog 98 #[lendV aT T.length cT aO O.length cO aP P.length cP, .slice aS S.length cS, .int .i64 now] w fun e w' => e = gaveUp ∧ Below w.heap.size w w' := (movedTo_walk cT cO cP cS now hT hO hP hS).mono (by
  rintro e w' (⟨h, _⟩ | ⟨_, h⟩)
  · rw [hm] at h; cases h
  · exact h)
end Go.Proofs.Ytmophpbfaonfmac

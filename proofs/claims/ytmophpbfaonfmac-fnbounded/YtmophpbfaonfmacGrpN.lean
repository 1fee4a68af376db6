/- Lemmas on the way, of several texts: SpecFill7, SpecFill8, SpecAsk2, RetreeMath, LenderMath. -/
import Derived.Test.YtmophpbfaonfmacSpecCopy
import Derived.Test.YtmophpbfaonfmacGrpM
import Derived.Deep.CutRange
import Derived.Deep.DeepCutAuto
import Derived.Test.YtmophpbfaonfmacGrpH
namespace Go.Proofs.Ytmophpbfaonfmac
open Go.ChangeShapes Go.WideShapes Go.ChangeAt Go.RowKit
set_option maxRecDepth 100000
set_option linter.unusedVariables false
set_option linter.unusedSimpArgs false

theorem flatQ_set (xs : List Q4) : ∀ (i : Nat) (q : Q4), ((((flatQ xs).set (i * 4) (.int .i64 q.1)).set (i * 4 + 1) (.int .i64 q.2.1)).set (i * 4 + 2) (.int .i64 q.2.2.1)).set (i * 4 + 3) (.int .i64 q.2.2.2) = flatQ (xs.set i q) := by
  induction xs with
  | nil => intro i q; rfl
  | cons x xs ih =>
    intro i q
    have e : flatQ (x :: xs) = Value.int .i64 x.1 :: Value.int .i64 x.2.1 :: Value.int .i64 x.2.2.1 :: Value.int .i64 x.2.2.2 :: flatQ xs := rfl
    cases i with
    | zero => rfl
    | succ i =>
      rw [e]
      have a0 : (i + 1) * 4 = i * 4 + 1 + 1 + 1 + 1 := by omega
      have a1 : i * 4 + 1 + 1 + 1 + 1 + 1 = i * 4 + 1 + 1 + 1 + 1 + 1 := rfl
      rw [a0]
      show Value.int .i64 x.1 :: Value.int .i64 x.2.1 :: Value.int .i64 x.2.2.1 :: Value.int .i64 x.2.2.2 :: ((((flatQ xs).set (i * 4) (.int .i64 q.1)).set (i * 4 + 1) (.int .i64 q.2.1)).set (i * 4 + 2) (.int .i64 q.2.2.1)).set (i * 4 + 3) (.int .i64 q.2.2.2) = flatQ (x :: xs.set i q)
      rw [ih i q]
      rfl
theorem row_putQ {w : World} {base g n cap : Nat} {t : TypeId} {xs : List Q4} (h : w.ownsRow base t 4 (.slice (some ⟨g, 0, none⟩) n cap) n (flatQ xs)) (i : Nat) (q : Q4) : (putQ w g (i * 4) q).ownsRow base t 4 (.slice (some ⟨g, 0, none⟩) n cap) n (flatQ (xs.set i q)) := by
  rw [← flatQ_set]
  exact ((((h.stored (i * 4) _).1.stored (i * 4 + 1) _).1.stored (i * 4 + 2) _).1.stored (i * 4 + 3) _).1
theorem putQ_grown (w : World) (g o : Nat) (q : Q4) : w.grownBy (putQ w g o q) (some g) := by
  have h := putQ_only (x := q) (o := o) (Only.refl g w)
  exact ⟨h.os, h.tape, h.output, h.size, fun k hk hn => h.block k hk (fun e => hn (by rw [e]))⟩
/-- What the filling keeps: what came in, the answer's place, the copy in a variable; its three rows. -/
structure FlSt (w W : World) (b2 : Nat) (sT sO sP : Value) (gT cT gO cO gP cP : Nat) (T X Y : List Q4) : Prop where
  kept : Kept w [(w.heap.size, 0, sT), (w.heap.size, 1, sO), (w.heap.size, 2, sP), (w.heap.size + 1, 0, .slice none 0 0), (w.heap.size + 1, 1, .slice none 0 0), (w.heap.size + 1, 2, .slice none 0 0), (b2, 0, .slice (some ⟨gT, 0, none⟩) T.length cT), (b2, 1, .slice (some ⟨gO, 0, none⟩) X.length cO), (b2, 2, .slice (some ⟨gP, 0, none⟩) Y.length cP)] [w.heap.size + 1] W
  rT : W.ownsRow (w.heap.size + 2) 61 4 (.slice (some ⟨gT, 0, none⟩) T.length cT) T.length (flatQ T)
  rO : W.ownsRow (w.heap.size + 2) 25 4 (.slice (some ⟨gO, 0, none⟩) X.length cO) X.length (flatQ X)
  rP : W.ownsRow (w.heap.size + 2) 25 4 (.slice (some ⟨gP, 0, none⟩) Y.length cP) Y.length (flatQ Y)
  ap : gO ≠ gP
  lo : w.heap.size + 2 ≤ b2
  nO : gO < b2
  nP : gP < b2
  nT : gT < b2
section
variable {w W : World} {b2 : Nat} {sT sO sP : Value} {gT cT gO cO gP cP : Nat} {T X Y : List Q4}
theorem FlSt.next (d : FlSt w W b2 sT sO sP gT cT gO cO gP cP T X Y) {W' : World} (h : Below W.heap.size W W') : FlSt w W' b2 sT sO sP gT cT gO cO gP cP T X Y :=
  ⟨d.kept.next h, row_next d.rT h, row_next d.rO h, row_next d.rP h, d.ap, d.lo, d.nO, d.nP, d.nT⟩
theorem FlSt.low (d : FlSt w W b2 sT sO sP gT cT gO cO gP cP T X Y) : w.heap.size + 2 ≤ gO ∧ w.heap.size + 2 ≤ gP ∧ w.heap.size + 2 ≤ gT := ⟨(d.rO.lt gO rfl).1, (d.rP.lt gP rfl).1, (d.rT.lt gT rfl).1⟩
theorem FlSt.keeps (d : FlSt w W b2 sT sO sP gT cT gO cO gP cP T X Y) {W' : World} {g : Nat} (hg : W.grownBy W' (some g)) (h1 : w.heap.size + 2 ≤ g) (h2 : g ≠ b2) {cs : List (Nat × Nat × Value)} {bs : List Nat} (k : Kept w cs bs W) (hc : ∀ c ∈ cs, c.1 ≤ w.heap.size + 1 ∨ c.1 = b2) (hb : ∀ b ∈ bs, b ≤ w.heap.size + 1) : Kept w cs bs W' := by
  refine k.onlyO (OnlyO.of_grown hg) (fun j e => by have e1 : g = j := Option.some.inj e; omega) (fun c hc' e => ?_) (fun b hb' e => ?_)
  · have e1 : g = c.1 := Option.some.inj e
    rcases hc c hc' with h | h <;> omega
  · have e1 : g = b := Option.some.inj e
    have := hb b hb'
    omega
theorem FlSt.cellsOk : ∀ c ∈ [(w.heap.size, 0, sT), (w.heap.size, 1, sO), (w.heap.size, 2, sP), (w.heap.size + 1, 0, Value.slice none 0 0), (w.heap.size + 1, 1, .slice none 0 0), (w.heap.size + 1, 2, .slice none 0 0), (b2, 0, .slice (some ⟨gT, 0, none⟩) T.length cT), (b2, 1, .slice (some ⟨gO, 0, none⟩) X.length cO), (b2, 2, .slice (some ⟨gP, 0, none⟩) Y.length cP)], c.1 ≤ w.heap.size + 1 ∨ c.1 = b2 := by
  intro c hc
  simp only [List.mem_cons, List.not_mem_nil, or_false] at hc
  rcases hc with rfl | rfl | rfl | rfl | rfl | rfl | rfl | rfl | rfl
  all_goals first | exact .inr rfl | exact .inl (by simp)
theorem FlSt.putO (d : FlSt w W b2 sT sO sP gT cT gO cO gP cP T X Y) (i : Nat) (q : Q4) : FlSt w (putQ W gO (i * 4) q) b2 sT sO sP gT cT gO cO gP cP T (X.set i q) Y := by
  have hl := d.low
  have hg := putQ_grown W gO (i * 4) q
  have hne := d.nO
  have k := d.keeps hg hl.1 (by omega) d.kept FlSt.cellsOk (fun b hb => by simp only [List.mem_cons, List.not_mem_nil, or_false] at hb; omega)
  have ro := row_putQ d.rO i q
  refine ⟨?_, d.rT.kept hg (rows_keep d.rT d.rO (by decide)), ?_, d.rP.kept hg (.inr (fun e => d.ap (Option.some.inj e).symm)), d.ap, d.lo, d.nO, d.nP, d.nT⟩
  · rw [List.length_set]; exact k
  · rw [List.length_set]; exact ro
theorem FlSt.putP (d : FlSt w W b2 sT sO sP gT cT gO cO gP cP T X Y) (i : Nat) (q : Q4) : FlSt w (putQ W gP (i * 4) q) b2 sT sO sP gT cT gO cO gP cP T X (Y.set i q) := by
  have hl := d.low
  have hg := putQ_grown W gP (i * 4) q
  have hne := d.nP
  have k := d.keeps hg hl.2.1 (by omega) d.kept FlSt.cellsOk (fun b hb => by simp only [List.mem_cons, List.not_mem_nil, or_false] at hb; omega)
  have rp := row_putQ d.rP i q
  refine ⟨?_, d.rT.kept hg (rows_keep d.rT d.rP (by decide)), d.rO.kept hg (.inr (fun e => d.ap (Option.some.inj e))), ?_, d.ap, d.lo, d.nO, d.nP, d.nT⟩
  · rw [List.length_set]; exact k
  · rw [List.length_set]; exact rp
/-- Row of buckets at a place: what lies there, and that it may be written. -/
theorem row_at {t : TypeId} {base g n cap i : Nat} {X : List Q4} (h : W.ownsRow base t 4 (.slice (some ⟨g, 0, none⟩) n cap) n (flatQ X)) (hi : i < X.length) (hn : n = X.length) :
    (W.cell? ⟨g, i * 4, none⟩ = some (.int .i64 X[i].1) ∧ W.cell? ⟨g, i * 4 + 1, none⟩ = some (.int .i64 X[i].2.1) ∧ W.cell? ⟨g, i * 4 + 2, none⟩ = some (.int .i64 X[i].2.2.1) ∧ W.cell? ⟨g, i * 4 + 3, none⟩ = some (.int .i64 X[i].2.2.2)) ∧ ∀ j, W.frozen? ⟨g, j, none⟩ = false := by
  obtain ⟨f0, f1, f2, f3⟩ := flatQ_get X i hi
  exact ⟨⟨(h.cellAt _ (by omega)).trans f0, (h.cellAt _ (by omega)).trans f1, (h.cellAt _ (by omega)).trans f2, (h.cellAt _ (by omega)).trans f3⟩, fun j => h.frozenAt j⟩
end
/-- The first k are filled. -/
def mixF (now : Int) (O : List Q4) (k : Nat) : List Q4 := (fills now O).take k ++ O.drop k
theorem mix_length (now : Int) (O : List Q4) (k : Nat) (h : k ≤ O.length) : (mixF now O k).length = O.length := by
  unfold mixF
  rw [List.length_append, List.length_take, List.length_drop, fills_length]
  omega
theorem mix_zero (now : Int) (O : List Q4) : mixF now O 0 = O := by simp [mixF]
theorem mix_all (now : Int) (O : List Q4) : mixF now O O.length = fills now O := by
  unfold mixF
  rw [List.drop_length, List.append_nil, ← fills_length now O, List.take_length]
theorem mix_set {now : Int} {O : List Q4} {k : Nat} (h : k < O.length) : (mixF now O k).set k (fillQ now O[k]) = mixF now O (k + 1) := by
  have hf : k < (fills now O).length := by rw [fills_length]; exact h
  unfold mixF
  rw [List.drop_eq_getElem_cons h, List.take_succ_eq_append_getElem hf, fills_at h hf, List.append_assoc, List.set_append_right _ _ (by rw [List.length_take]; omega)]
  congr 1
  rw [List.length_take, Nat.min_eq_left (Nat.le_of_lt hf), Nat.sub_self]
  rfl
end Go.Proofs.Ytmophpbfaonfmac
namespace Go.Proofs.Ytmophpbfaonfmac
open Go.ChangeShapes Go.WideShapes Go.ChangeAt Go.RowKit
set_option maxRecDepth 100000
set_option linter.unusedVariables false
set_option linter.unusedSimpArgs false

theorem fl_fin {w W : World} {b2 : Nat} {sT sO sP : Value} {gT cT gO cO gP cP : Nat} {T X Y : List Q4} (d : FlSt w W b2 sT sO sP gT cT gO cO gP cP T X Y) {a b c : Value} :
    CpPost w T X Y (.returned (lendV (some ⟨gT, 0, none⟩) T.length cT (some ⟨gO, 0, none⟩) X.length cO (some ⟨gP, 0, none⟩) Y.length cP)) (((W.setCell ⟨w.heap.size + 1, 0, none⟩ a).setCell ⟨w.heap.size + 1, 1, none⟩ b).setCell ⟨w.heap.size + 1, 2, none⟩ c) :=
  ⟨gT, cT, gO, cO, gP, cP, rfl, row_lowC (row_set (row_set (row_set d.rT (by omega)) (by omega)) (by omega)) (by omega), row_lowC (row_set (row_set (row_set d.rO (by omega)) (by omega)) (by omega)) (by omega), row_lowC (row_set (row_set (row_set d.rP (by omega)) (by omega)) (by omega)) (by omega),
    d.ap, ((d.kept.hb.setCell (by simp) _).setCell (by simp) _).setCell (by simp) _⟩
set_option maxHeartbeats 16000000 in
theorem l7Fill_any {w : World} {aT aO aP : Option Addr} (cT cO cP : Nat) {T O P : List Q4} (now : Int) (hT : Quad w.heap.size w aT T) (hO : Quad w.heap.size w aO O) (hP : Quad w.heap.size w aP P) (nT : 1 ≤ T.length ∧ T.length ≤ 30) (lO : O.length = T.length) (lP : P.length = T.length) (hn : timeB now = true)
    (okO : ∀ k (h : k < O.length), bokQ O[k] = true) (okP : ∀ k (h : k < P.length), bokQ P[k] = true) :
    Calls Try.prog 100 #[lendV aT T.length cT aO O.length cO aP P.length cP, .int .i64 now] w (CpPost w T (fills now O) (fills now P)) := by
  have HLO : Hid (O.length = T.length) := lO
  have HLP : Hid (P.length = T.length) := lP
  have hT1 := nT.1
  have hT2 := nT.2
  have hTi : (T.length : Int) ≤ 30 := by omega
  have hO1 : 0 < O.length := by omega
  have hP1 : 0 < P.length := by omega
  obtain ⟨bT, oT, rfl, hbT, -⟩ := hT 0 hT1
  obtain ⟨bO, oO, rfl, hbO, -⟩ := hO 0 hO1
  obtain ⟨bP, oP, rfl, hbP, -⟩ := hP 0 hP1
  rw [lO, lP]
  have nb : Below w.heap.size w ((w.alloc (.cells #[.slice (some ⟨bT, oT, none⟩) T.length cT, .slice (some ⟨bO, oO, none⟩) T.length cO, .slice (some ⟨bP, oP, none⟩) T.length cP] 64)).alloc (.cells #[.slice none 0 0, .slice none 0 0, .slice none 0 0] 64)) := by go_grown
  have hcp := l7Copy_any (w := ((w.alloc (.cells #[.slice (some ⟨bT, oT, none⟩) T.length cT, .slice (some ⟨bO, oO, none⟩) T.length cO, .slice (some ⟨bP, oP, none⟩) T.length cP] 64)).alloc (.cells #[.slice none 0 0, .slice none 0 0, .slice none 0 0] 64))) cT cO cP (hT.here nb) (hO.here nb) (hP.here nb) nT (by omega) (by omega)
  rw [lO, lP] at hcp
  have KW : Hid (Kept w [(w.heap.size, 0, .slice (some ⟨bT, oT, none⟩) T.length cT), (w.heap.size, 1, .slice (some ⟨bO, oO, none⟩) T.length cO), (w.heap.size, 2, .slice (some ⟨bP, oP, none⟩) T.length cP), (w.heap.size + 1, 0, .slice none 0 0), (w.heap.size + 1, 1, .slice none 0 0), (w.heap.size + 1, 2, .slice none 0 0)] [w.heap.size + 1] ((w.alloc (.cells #[.slice (some ⟨bT, oT, none⟩) T.length cT, .slice (some ⟨bO, oO, none⟩) T.length cO, .slice (some ⟨bP, oP, none⟩) T.length cP] 64)).alloc (.cells #[.slice none 0 0, .slice none 0 0, .slice none 0 0] 64))) :=
    ⟨⟨⟨by simp <;> omega, by go_simp⟩, ⟨by simp <;> omega, by go_simp⟩, ⟨by simp <;> omega, by go_simp⟩, ⟨by simp, by go_simp⟩, ⟨by simp, by go_simp⟩, ⟨by simp, by go_simp⟩, trivial⟩,
     (fun b hb => by simp only [List.mem_cons, List.not_mem_nil, or_false] at hb; subst hb; exact ⟨by simp, fun o => by go_simp⟩), by go_grown⟩
  have zW : ((w.alloc (.cells #[.slice (some ⟨bT, oT, none⟩) T.length cT, .slice (some ⟨bO, oO, none⟩) T.length cO, .slice (some ⟨bP, oP, none⟩) T.length cP] 64)).alloc (.cells #[.slice none 0 0, .slice none 0 0, .slice none 0 0] 64)).heap.size = w.heap.size + 2 := by simp
  clear lO lP
  go_enter Try.func100, Try.ntmps100
  go_upto_region 2 with (go_at_call 129; refine hcp.mono ?_; clear hcp; rintro e w2 ⟨gT, dT, gO, dO, gP, dP, rfl, r1, r2, r3, hap, hb2⟩)
  rw [zW] at r1 r2 r3
  have D : Hid (FlSt w (w2.alloc (.cells #[.slice (some ⟨gT, 0, none⟩) T.length dT, .slice (some ⟨gO, 0, none⟩) O.length dO, .slice (some ⟨gP, 0, none⟩) P.length dP] 64)) w2.heap.size (.slice (some ⟨bT, oT, none⟩) T.length cT) (.slice (some ⟨bO, oO, none⟩) T.length cO) (.slice (some ⟨bP, oP, none⟩) T.length cP) gT dT gO dO gP dP T O P) := by
    have K2 := (KW.out.next hb2).next (new_below w2 (.cells #[.slice (some ⟨gT, 0, none⟩) T.length dT, .slice (some ⟨gO, 0, none⟩) O.length dO, .slice (some ⟨gP, 0, none⟩) P.length dP] 64))
    obtain ⟨⟨e0, e1, e2, e3, e4, e5, _⟩, hf, hbb⟩ := K2
    have hs := hb2.size
    rw [zW] at hs
    exact ⟨⟨⟨e0, e1, e2, e3, e4, e5, ⟨by simp, by go_simp⟩, ⟨by simp, by go_simp⟩, ⟨by simp, by go_simp⟩, trivial⟩, hf, hbb⟩, r1.alloc _, r2.alloc _, r3.alloc _, hap, hs, (r2.lt gO rfl).2, (r3.lt gP rfl).2, (r1.lt gT rfl).2⟩
  have zb2 := hb2.size
  clear r1 r2 r3 hb2 KW nb
  obtain ⟨v0, hv0⟩ : ∃ v, w2.alloc (.cells #[.slice (some ⟨gT, 0, none⟩) T.length dT, .slice (some ⟨gO, 0, none⟩) O.length dO, .slice (some ⟨gP, 0, none⟩) P.length dP] 64) = v := ⟨_, rfl⟩
  rw [hv0] at D ⊢
  obtain ⟨b2, hb2⟩ : ∃ b, w2.heap.size = b := ⟨_, rfl⟩
  rw [hb2] at D ⊢
  clear hv0 hb2 zb2 zW
  go_wp2
  go_loopw [6] (fun i wr => ∃ (k : Nat) (X Y : List Q4), i = .int .i64 k ∧ k ≤ T.length ∧ Hid (X = mixF now O k) ∧ Hid (Y = mixF now P k) ∧ Hid (FlSt w wr b2 (.slice (some ⟨bT, oT, none⟩) T.length cT) (.slice (some ⟨bO, oO, none⟩) T.length cO) (.slice (some ⟨bP, oP, none⟩) T.length cP) gT dT gO dO gP dP T X Y) ) (fun i _ => T.length - (intOf i).toNat)
  case atStart => exact ⟨0, O, P, rfl, by omega, (mix_zero now O).symm, (mix_zero now P).symm, D⟩
  case round =>
    clear D
    obtain ⟨k, X, Y, rfl, hk, HX, HY, D⟩ := hrel
    have HLX : Hid (X.length = T.length) := by
      show X.length = T.length
      rw [HX.out, mix_length now O k (by have := HLO.out; omega), HLO.out]
    have HLY : Hid (Y.length = T.length) := by
      show Y.length = T.length
      rw [HY.out, mix_length now P k (by have := HLP.out; omega), HLP.out]
    have ⟨⟨z0, q0⟩, ⟨z1, q1⟩, ⟨z2, q2⟩, ⟨z3, q3⟩, ⟨z4, q4⟩, ⟨z5, q5⟩, ⟨z6, q6⟩, ⟨z7, q7⟩, ⟨z8, q8⟩, _⟩ := D.out.kept.cells
    rw [HLX.out] at q7
    rw [HLY.out] at q8
    have hbw := D.out.kept.hb
    by_cases hlt : k < T.length
    · have hlt' : (k : Int) < (T.length : Int) := by omega
      have hkO : k < O.length := by have := HLO.out; omega
      have hkP : k < P.length := by have := HLP.out; omega
      have hkX : k < X.length := by have := HLX.out; omega
      have hkY : k < Y.length := by have := HLY.out; omega
      have hlow := D.out.low
      have hlo2 := D.out.lo
      have hnO := D.out.nO
      have hnP := D.out.nP
      have hlowO := hlow.1
      have hlowP := hlow.2.1
      clear hlow
      obtain ⟨x0, x1, x2, x3⟩ := hO.cells (Below.refl _ _) k hkO
      have hbk := okO k hkO
      have hS := mix_set (now := now) hkO
      obtain ⟨b, hb⟩ : ∃ b, O[k] = b := ⟨_, rfl⟩
      rw [hb] at x0 x1 x2 x3 hbk hS
      obtain ⟨r, u, l, t⟩ := b
      simp only at x0 x1 x2 x3
      have hbk : bokB r u l t = true := hbk
      have HSX : Hid (X.set k (fillQ now (r, u, l, t)) = mixF now O (k + 1)) := by rw [← HX.out] at hS; exact hS
      clear hb hS
      have y0 := (hbw.cell (p := ⟨bO, oO + k * 4, none⟩) hbO).trans x0
      have y1 := (hbw.cell (p := ⟨bO, oO + k * 4 + 1, none⟩) hbO).trans x1
      have y2 := (hbw.cell (p := ⟨bO, oO + k * 4 + 2, none⟩) hbO).trans x2
      have y3 := (hbw.cell (p := ⟨bO, oO + k * 4 + 3, none⟩) hbO).trans x3
      have fB : gO ≠ b2 := by omega
      have fW : gO ≠ w.heap.size := by omega
      have fX : gO ≠ bO := by omega
      have hfl := fun W : World => l4Fill_any (now := now) W hbk hn
      have hstep : ∀ v2 : World, Below wr.drew.heap.size wr.drew v2 → Hid (FlSt w v2 b2 (.slice (some ⟨bT, oT, none⟩) T.length cT) (.slice (some ⟨bO, oO, none⟩) T.length cO) (.slice (some ⟨bP, oP, none⟩) T.length cP) gT dT gO dO gP dP T X Y) ∧ v2.cell? ⟨b2, 1, none⟩ = some (.slice (some ⟨gO, 0, none⟩) T.length dO) ∧ v2.cell? ⟨w.heap.size, 1, none⟩ = some (.slice (some ⟨bO, oO, none⟩) T.length cO) ∧ v2.cell? ⟨bO, oO + k * 4, none⟩ = some (.int .i64 r) ∧ v2.cell? ⟨bO, oO + k * 4 + 1, none⟩ = some (.int .i64 u) ∧ v2.cell? ⟨bO, oO + k * 4 + 2, none⟩ = some (.int .i64 l) ∧ v2.cell? ⟨bO, oO + k * 4 + 3, none⟩ = some (.int .i64 t) ∧ v2.cell? ⟨gO, k * 4, none⟩ = some (.int .i64 X[k].1) ∧ v2.cell? ⟨gO, k * 4 + 1, none⟩ = some (.int .i64 X[k].2.1) ∧ v2.cell? ⟨gO, k * 4 + 2, none⟩ = some (.int .i64 X[k].2.2.1) ∧ v2.cell? ⟨gO, k * 4 + 3, none⟩ = some (.int .i64 X[k].2.2.2) ∧ (∀ j, v2.frozen? ⟨gO, j, none⟩ = false) := by
        intro v2 hb2
        have D2 := (D.out.next (Below.refl _ _).drew).next hb2
        have hbv := D2.kept.hb
        have ⟨_, ⟨_, p1⟩, ⟨_, p2⟩, _, _, _, ⟨_, p7⟩, ⟨_, p8⟩, ⟨_, p9⟩, _⟩ := D2.kept.cells
        rw [HLX.out] at p8
        rw [HLY.out] at p9
        have hrow := row_at (i := k) D2.rO hkX rfl
        exact ⟨D2, p8, p1, (hbv.cell (p := ⟨bO, oO + k * 4, none⟩) hbO).trans x0, (hbv.cell (p := ⟨bO, oO + k * 4 + 1, none⟩) hbO).trans x1, (hbv.cell (p := ⟨bO, oO + k * 4 + 2, none⟩) hbO).trans x2, (hbv.cell (p := ⟨bO, oO + k * 4 + 3, none⟩) hbO).trans x3, hrow.1.1, hrow.1.2.1, hrow.1.2.2.1, hrow.1.2.2.2, hrow.2⟩
      go_upto_region 5 with (fail)
      go_cut [] from 16 to 26 (fun wd => FlSt w wd b2 (.slice (some ⟨bT, oT, none⟩) T.length cT) (.slice (some ⟨bO, oO, none⟩) T.length cO) (.slice (some ⟨bP, oP, none⟩) T.length cP) gT dT gO dO gP dP T (X.set k (fillQ now (r, u, l, t))) Y)
      case first =>
        go_region_held3 (fun w' => w'.cell? ⟨b2, 1, none⟩ = some (.slice (some ⟨gO, 0, none⟩) T.length dO) ∧ w'.cell? ⟨w.heap.size, 1, none⟩ = some (.slice (some ⟨bO, oO, none⟩) T.length cO) ∧ w'.cell? ⟨bO, oO + k * 4, none⟩ = some (.int .i64 r) ∧ w'.cell? ⟨bO, oO + k * 4 + 1, none⟩ = some (.int .i64 u) ∧ w'.cell? ⟨bO, oO + k * 4 + 2, none⟩ = some (.int .i64 l) ∧ w'.cell? ⟨bO, oO + k * 4 + 3, none⟩ = some (.int .i64 t)) (first | exact ⟨p7, p1, y0, y1, y2, y3⟩ | exact ⟨q7, q1, y0, y1, y2, y3⟩ | exact ⟨(set_far fB).trans ((set_far fB).trans ((set_far fB).trans ((set_far fB).trans p7))), (set_far fW).trans ((set_far fW).trans ((set_far fW).trans ((set_far fW).trans p1))), (set_far fX).trans ((set_far fX).trans ((set_far fX).trans ((set_far fX).trans y0))), (set_far fX).trans ((set_far fX).trans ((set_far fX).trans ((set_far fX).trans y1))), (set_far fX).trans ((set_far fX).trans ((set_far fX).trans ((set_far fX).trans y2))), (set_far fX).trans ((set_far fX).trans ((set_far fX).trans ((set_far fX).trans y3)))⟩)
          (first | (go_at_call 57; refine (hfl _).mono ?_; rintro e v2 ⟨rfl, hb2⟩; obtain ⟨D2, p7, p1, y0, y1, y2, y3, m0, m1, m2, m3, mF⟩ := hstep _ hb2))
        all_goals (repeat go_step)
        all_goals go_meet
        all_goals exact D2.out.putO k (fillQ now (r, u, l, t))
      case rest =>
        have D1 : Hid (FlSt w wc b2 (.slice (some ⟨bT, oT, none⟩) T.length cT) (.slice (some ⟨bO, oO, none⟩) T.length cO) (.slice (some ⟨bP, oP, none⟩) T.length cP) gT dT gO dO gP dP T (X.set k (fillQ now (r, u, l, t))) Y) := hcut
        clear D hstep hfl q0 q1 q2 q3 q4 q5 q6 q7 q8 z0 z1 z2 z3 z4 z5 z6 z7 z8 x0 x1 x2 x3 y0 y1 y2 y3 hbk hbw hkX fB fW fX
        obtain ⟨X1, hX1⟩ : ∃ X1, X.set k (fillQ now (r, u, l, t)) = X1 := ⟨_, rfl⟩
        have HX1 : Hid (X1 = mixF now O (k + 1)) := by rw [← hX1]; exact HSX.out
        have HLX1 : Hid (X1.length = T.length) := by rw [← hX1]; show (X.set k _).length = T.length; rw [List.length_set]; exact HLX.out
        have D : Hid (FlSt w wc b2 (.slice (some ⟨bT, oT, none⟩) T.length cT) (.slice (some ⟨bO, oO, none⟩) T.length cO) (.slice (some ⟨bP, oP, none⟩) T.length cP) gT dT gO dO gP dP T X1 Y) := by rw [← hX1]; exact D1.out
        clear D1 hX1 HSX HX HLX
        have HLX := HLX1
        have ⟨⟨z0, q0⟩, ⟨z1, q1⟩, ⟨z2, q2⟩, ⟨z3, q3⟩, ⟨z4, q4⟩, ⟨z5, q5⟩, ⟨z6, q6⟩, ⟨z7, q7⟩, ⟨z8, q8⟩, _⟩ := D.out.kept.cells
        rw [HLX.out] at q7
        rw [HLY.out] at q8
        have hbw := D.out.kept.hb
        obtain ⟨x0, x1, x2, x3⟩ := hP.cells (Below.refl _ _) k hkP
        have hbk := okP k hkP
        have hS := mix_set (now := now) hkP
        obtain ⟨b, hb⟩ : ∃ b, P[k] = b := ⟨_, rfl⟩
        rw [hb] at x0 x1 x2 x3 hbk hS
        obtain ⟨r, u, l, t⟩ := b
        simp only at x0 x1 x2 x3
        have hbk : bokB r u l t = true := hbk
        have HSY : Hid (Y.set k (fillQ now (r, u, l, t)) = mixF now P (k + 1)) := by rw [← HY.out] at hS; exact hS
        clear hb hS
        have y0 := (hbw.cell (p := ⟨bP, oP + k * 4, none⟩) hbP).trans x0
        have y1 := (hbw.cell (p := ⟨bP, oP + k * 4 + 1, none⟩) hbP).trans x1
        have y2 := (hbw.cell (p := ⟨bP, oP + k * 4 + 2, none⟩) hbP).trans x2
        have y3 := (hbw.cell (p := ⟨bP, oP + k * 4 + 3, none⟩) hbP).trans x3
        have fB : gP ≠ b2 := by omega
        have fW : gP ≠ w.heap.size := by omega
        have fX : gP ≠ bP := by omega
        have hfl := fun W : World => l4Fill_any (now := now) W hbk hn
        have hstep : ∀ v2 : World, Below wc.drew.heap.size wc.drew v2 → Hid (FlSt w v2 b2 (.slice (some ⟨bT, oT, none⟩) T.length cT) (.slice (some ⟨bO, oO, none⟩) T.length cO) (.slice (some ⟨bP, oP, none⟩) T.length cP) gT dT gO dO gP dP T X1 Y) ∧ v2.cell? ⟨b2, 2, none⟩ = some (.slice (some ⟨gP, 0, none⟩) T.length dP) ∧ v2.cell? ⟨w.heap.size, 2, none⟩ = some (.slice (some ⟨bP, oP, none⟩) T.length cP) ∧ v2.cell? ⟨bP, oP + k * 4, none⟩ = some (.int .i64 r) ∧ v2.cell? ⟨bP, oP + k * 4 + 1, none⟩ = some (.int .i64 u) ∧ v2.cell? ⟨bP, oP + k * 4 + 2, none⟩ = some (.int .i64 l) ∧ v2.cell? ⟨bP, oP + k * 4 + 3, none⟩ = some (.int .i64 t) ∧ v2.cell? ⟨gP, k * 4, none⟩ = some (.int .i64 Y[k].1) ∧ v2.cell? ⟨gP, k * 4 + 1, none⟩ = some (.int .i64 Y[k].2.1) ∧ v2.cell? ⟨gP, k * 4 + 2, none⟩ = some (.int .i64 Y[k].2.2.1) ∧ v2.cell? ⟨gP, k * 4 + 3, none⟩ = some (.int .i64 Y[k].2.2.2) ∧ (∀ j, v2.frozen? ⟨gP, j, none⟩ = false) := by
          intro v2 hb2
          have D2 := (D.out.next (Below.refl _ _).drew).next hb2
          have hbv := D2.kept.hb
          have ⟨_, ⟨_, p1⟩, ⟨_, p2⟩, _, _, _, ⟨_, p7⟩, ⟨_, p8⟩, ⟨_, p9⟩, _⟩ := D2.kept.cells
          rw [HLX.out] at p8
          rw [HLY.out] at p9
          have hrow := row_at (i := k) D2.rP hkY rfl
          exact ⟨D2, p9, p2, (hbv.cell (p := ⟨bP, oP + k * 4, none⟩) hbP).trans x0, (hbv.cell (p := ⟨bP, oP + k * 4 + 1, none⟩) hbP).trans x1, (hbv.cell (p := ⟨bP, oP + k * 4 + 2, none⟩) hbP).trans x2, (hbv.cell (p := ⟨bP, oP + k * 4 + 3, none⟩) hbP).trans x3, hrow.1.1, hrow.1.2.1, hrow.1.2.2.1, hrow.1.2.2.2, hrow.2⟩
        go_upto_region 6 with (fail)
        go_region_held3 (fun w' => w'.cell? ⟨b2, 2, none⟩ = some (.slice (some ⟨gP, 0, none⟩) T.length dP) ∧ w'.cell? ⟨w.heap.size, 2, none⟩ = some (.slice (some ⟨bP, oP, none⟩) T.length cP) ∧ w'.cell? ⟨bP, oP + k * 4, none⟩ = some (.int .i64 r) ∧ w'.cell? ⟨bP, oP + k * 4 + 1, none⟩ = some (.int .i64 u) ∧ w'.cell? ⟨bP, oP + k * 4 + 2, none⟩ = some (.int .i64 l) ∧ w'.cell? ⟨bP, oP + k * 4 + 3, none⟩ = some (.int .i64 t)) (first | exact ⟨p7, p1, y0, y1, y2, y3⟩ | exact ⟨q8, q2, y0, y1, y2, y3⟩ | exact ⟨(set_far fB).trans ((set_far fB).trans ((set_far fB).trans ((set_far fB).trans p7))), (set_far fW).trans ((set_far fW).trans ((set_far fW).trans ((set_far fW).trans p1))), (set_far fX).trans ((set_far fX).trans ((set_far fX).trans ((set_far fX).trans y0))), (set_far fX).trans ((set_far fX).trans ((set_far fX).trans ((set_far fX).trans y1))), (set_far fX).trans ((set_far fX).trans ((set_far fX).trans ((set_far fX).trans y2))), (set_far fX).trans ((set_far fX).trans ((set_far fX).trans ((set_far fX).trans y3)))⟩)
          (first | (go_at_call 57; refine (hfl _).mono ?_; rintro e v2 ⟨rfl, hb2⟩; obtain ⟨D2, p7, p1, y0, y1, y2, y3, m0, m1, m2, m3, mF⟩ := hstep _ hb2))
        all_goals go_wp2
        all_goals go_roundw
        all_goals first
          | exact ⟨k + 1, X1, _, by go_num, by omega, HX1, HSY, D2.out.putP k (fillQ now (r, u, l, t))⟩
          | (simp [intOf]; done)
          | (simp [intOf]; omega)
    · have e : k = T.length := by omega
      subst e
      have eX : X = fills now O := by rw [HX.out, ← HLO.out]; exact mix_all now O
      have eY : Y = fills now P := by rw [HY.out, ← HLP.out]; exact mix_all now P
      have HEX : Hid (X = fills now O) := eX
      have HEY : Hid (Y = fills now P) := eY
      clear eX eY HX HY
      have fr := (D.out.kept.free (w.heap.size + 1) (List.mem_singleton.2 rfl)).2
      have n1 : w.heap.size + 1 ≠ b2 := by have := D.out.lo; omega
      go_wp2
      refine bodyPost_ret (results_one rfl _ _ _ [.slice (some ⟨gT, 0, none⟩) T.length dT, .slice (some ⟨gO, 0, none⟩) T.length dO, .slice (some ⟨gP, 0, none⟩) T.length dP] rfl (set_three (u0 := .slice none 0 0) (u1 := .slice none 0 0) (u2 := .slice none 0 0) _ _ _ q3 q4 q5) Try.underlying64 rfl (by kernel_rfl)) rfl ?_
      have hfin := fl_fin D.out (a := .slice (some ⟨gT, 0, none⟩) T.length dT) (b := .slice (some ⟨gO, 0, none⟩) T.length dO) (c := .slice (some ⟨gP, 0, none⟩) T.length dP)
      rw [HLX.out, HLY.out, HEX.out, HEY.out] at hfin
      exact hfin
end Go.Proofs.Ytmophpbfaonfmac
namespace Go.Proofs.Ytmophpbfaonfmac
open Go.ChangeShapes Go.WideShapes Go.ChangeAt Go.RowKit
set_option maxRecDepth 100000
set_option linter.unusedVariables false
set_option linter.unusedSimpArgs false

theorem own_quadC {w : World} {base : Nat} {a : Option Addr} {c : Nat} {t : TypeId} {T : List Q4} (h : w.ownsRow base t 4 (.slice a T.length c) T.length (flatQ T)) : Quad w.heap.size w a T := (own_qv h).quad.2
theorem iv_ismp {w : World} {lo n c : Nat} {a : Option Addr} {xs : List Int} (h : IV w lo (.slice a n c) xs) : ISmp w.heap.size w a xs := by
  obtain ⟨a', c', e, k⟩ := h.smp
  injection e with e1 e2 e3
  subst e1
  exact k
/-- What is asked of a Lend that is right. -/
structure Told (T O P : List Q4) (leaf now n : Int) : Prop where
  lend : IsLend T O P
  l0 : 0 ≤ leaf
  l1 : leaf < T.length
  isLeaf : leafB T leaf = true
  isTime : timeB now = true
  isLate : atOf O ≤ now
  isSeg : segB n = true
theorem told_of {T O P : List Q4} {leaf now n : Int} (h : toldB T O P leaf now n = true) : Told T O P leaf now n := by
  unfold toldB at h
  simp only [Bool.and_eq_true, decide_eq_true_eq] at h
  exact ⟨lend_of h.1.1.1.1.1, h.1.1.1.1.2.1, by have := h.1.1.1.1.2.2; omega, h.1.1.1.2, h.1.1.2, h.1.2, h.2⟩
def whoOf (T O P : List Q4) (leaf now n : Int) : Int := askOf (fills now O) (fills now P) n (pathOf T leaf)
def askAns (T O P : List Q4) (leaf now n : Int) : Int := if toldB T O P leaf now n = true then (match (pathOf T leaf)[(whoOf T O P leaf now n).toNat]? with | some c => if whoOf T O P leaf now n < 0 then -1 else c | none => -1) else -2
theorem who_range (T O P : List Q4) (leaf now n : Int) : whoOf T O P leaf now n = -1 ∨ (0 ≤ whoOf T O P leaf now n ∧ whoOf T O P leaf now n < (pathOf T leaf).length) := ask_bounds _ _ _ _
theorem ask_no {T O P : List Q4} {leaf now n : Int} (h : toldB T O P leaf now n = true) (hw : whoOf T O P leaf now n = -1) : askAns T O P leaf now n = -1 := by
  unfold askAns
  rw [if_pos h, hw]
  cases (pathOf T leaf)[(-1 : Int).toNat]? with
  | none => rfl
  | some c => rfl
theorem ask_yes {T O P : List Q4} {leaf now n : Int} {k : Nat} (h : toldB T O P leaf now n = true) (hw : whoOf T O P leaf now n = k) (hk : k < (pathOf T leaf).length) : askAns T O P leaf now n = (pathOf T leaf)[k] := by
  unfold askAns
  rw [if_pos h, hw, Int.toNat_natCast, List.getElem?_eq_getElem hk]
  simp only
  rw [if_neg (by omega)]
end Go.Proofs.Ytmophpbfaonfmac
namespace Go.Proofs.Ytmophpbfaonfmac
open Go.ChangeShapes Go.WideShapes Go.ChangeAt Go.RowKit
set_option maxRecDepth 100000
set_option linter.unusedVariables false

def resetQ (now r u : Int) (b : Q4) : Q4 := resetOf b.1 b.2.1 b.2.2.1 b.2.2.2 r u now
def movO (S O : List Q4) (now : Int) : List Q4 := List.zipWith (fun b t => resetQ now t.2.1 t.2.2.2 b) O S
def movP (S P : List Q4) (now : Int) : List Q4 := List.zipWith (fun b t => resetQ now t.2.2.1 t.2.2.2 b) P S
def movB (T O P S : List Q4) (now : Int) : Bool := ((lendB T O P && decide (treeCode S = 0)) && decide (S.length = T.length)) && (decide (atOf O ≤ now) && decide (now ≤ 1000000000000000))
theorem mov_no1 {T O P S : List Q4} {now : Int} (h : lendB T O P = false) : movB T O P S now = false := by unfold movB; rw [h]; rfl
theorem mov_no2 {T O P S : List Q4} {now : Int} (h : ¬ treeCode S = 0) : movB T O P S now = false := by unfold movB; rw [decide_eq_false h, Bool.and_false]; rfl
theorem mov_no3 {T O P S : List Q4} {now : Int} (h : ¬ S.length = T.length) : movB T O P S now = false := by unfold movB; rw [decide_eq_false h, Bool.and_false]; rfl
theorem mov_no4 {T O P S : List Q4} {now : Int} (h : (decide (atOf O ≤ now) && decide (now ≤ 1000000000000000)) = false) : movB T O P S now = false := by unfold movB; rw [h, Bool.and_false]
theorem mov_yes {T O P S : List Q4} {now : Int} (h1 : lendB T O P = true) (h2 : treeCode S = 0) (h3 : S.length = T.length) (h4 : (decide (atOf O ≤ now) && decide (now ≤ 1000000000000000)) = true) : movB T O P S now = true := by
  unfold movB
  rw [h1, decide_eq_true h2, decide_eq_true h3, h4]
  rfl
theorem movO_length {S O : List Q4} {now : Int} (h : O.length = S.length) : (movO S O now).length = S.length := by unfold movO; rw [List.length_zipWith]; omega
theorem movP_length {S P : List Q4} {now : Int} (h : P.length = S.length) : (movP S P now).length = S.length := by unfold movP; rw [List.length_zipWith]; omega
theorem movO_next {S O : List Q4} {now : Int} {k : Nat} (h1 : k < S.length) (h2 : k < O.length) : (movO S O now).take (k + 1) = (movO S O now).take k ++ [resetQ now S[k].2.1 S[k].2.2.2 O[k]] := by
  have h : k < (movO S O now).length := by unfold movO; rw [List.length_zipWith]; omega
  rw [List.take_succ_eq_append_getElem h]
  simp [movO]
theorem movP_next {S P : List Q4} {now : Int} {k : Nat} (h1 : k < S.length) (h2 : k < P.length) : (movP S P now).take (k + 1) = (movP S P now).take k ++ [resetQ now S[k].2.2.1 S[k].2.2.2 P[k]] := by
  have h : k < (movP S P now).length := by unfold movP; rw [List.length_zipWith]; omega
  rw [List.take_succ_eq_append_getElem h]
  simp [movP]
/-- The time at which a right Lend's buckets stand is a time. -/
theorem at_time {T O P : List Q4} (h : IsLend T O P) : 0 ≤ atOf O ∧ atOf O ≤ 1000000000000000 := by
  have l0 := h.tree.l0
  have hO : 0 < O.length := by rw [h.lo]; omega
  have hP : 0 < P.length := by rw [h.lp]; omega
  have hp := pair_ok (h.pair 0 (by omega) hO hP)
  have hb := bok_num hp.oka
  have e : O[0].2.2.2 = atOf O := hp.ta
  rw [← e]
  exact hb.2.2.2
theorem now_time {T O P : List Q4} {now : Int} (h : IsLend T O P) : (timeB now && decide (atOf O ≤ now)) = (decide (atOf O ≤ now) && decide (now ≤ 1000000000000000)) := by
  have ha := at_time h
  unfold timeB
  by_cases h1 : atOf O ≤ now
  · rw [decide_eq_true h1, decide_eq_true (show 0 ≤ now by omega)]
    simp
  · rw [decide_eq_false h1]
    simp
/-- Reset by the rate and the burst that it has already, a bucket is filled. -/
theorem reset_fill {now : Int} {b : Q4} (hb : bokQ b = true) (hn : timeB now = true) : resetQ now b.1 b.2.1 b = fillQ now b := by
  have hk : resetOk b.1 b.2.1 b.2.2.1 b.2.2.2 b.1 b.2.1 now = true := by
    have h2 := hb
    unfold bokQ bokB at h2
    simp only [Bool.and_eq_true] at h2
    unfold resetOk
    have hb' : bokB b.1 b.2.1 b.2.2.1 b.2.2.2 = true := hb
    rw [hb', h2.1.1.1, h2.1.1.2, hn]
    rfl
  have hbn := bok_num hb
  have hf := fill_bounds (r := b.1) (u := b.2.1) (l := b.2.2.1) (t := b.2.2.2) (now := now) hbn.2.1 hbn.2.2.1 hbn.1.1
  unfold resetQ resetOf fillQ
  rw [if_pos hk, Int.min_eq_left hf.2]
theorem mov_fillsO {T O P : List Q4} {now : Int} (h : IsLend T O P) (hn : timeB now = true) : movO T O now = fills now O := by
  refine List.ext_getElem (by rw [movO_length h.lo, fills_length, h.lo]) (fun k h1 h2 => ?_)
  have hk : k < O.length := by rw [fills_length] at h2; exact h2
  have hp := pair_ok (h.pair k (by rw [← h.lo]; exact hk) hk (by rw [h.lp, ← h.lo]; exact hk))
  rw [fills_at hk h2]
  have hT : k < T.length := by rw [← h.lo]; exact hk
  have e : (movO T O now)[k] = resetQ now T[k].2.1 T[k].2.2.2 O[k] := by simp [movO]
  rw [e, ← hp.ra, ← hp.ua]
  exact reset_fill hp.oka hn
theorem mov_fillsP {T O P : List Q4} {now : Int} (h : IsLend T O P) (hn : timeB now = true) : movP T P now = fills now P := by
  refine List.ext_getElem (by rw [movP_length h.lp, fills_length, h.lp]) (fun k h1 h2 => ?_)
  have hk : k < P.length := by rw [fills_length] at h2; exact h2
  have hp := pair_ok (h.pair k (by rw [← h.lp]; exact hk) (by rw [h.lo, ← h.lp]; exact hk) hk)
  rw [fills_at hk h2]
  have hT : k < T.length := by rw [← h.lp]; exact hk
  have e : (movP T P now)[k] = resetQ now T[k].2.2.1 T[k].2.2.2 P[k] := by simp [movP]
  rw [e, ← hp.rb, ← hp.ub]
  exact reset_fill hp.okb hn
end Go.Proofs.Ytmophpbfaonfmac
namespace Go.Proofs.Ytmophpbfaonfmac
open Go.ChangeShapes Go.WideShapes Go.ChangeAt Go.RowKit
set_option maxRecDepth 100000
set_option linter.unusedVariables false

def lendStep (O P : List Q4) (n : Int) (s : Option Int) (x : Int) : Option Int := match s with
  | none => none
  | some c => if levelOf P x < 1000000000 * n then none else some (if c = -1 ∧ 1000000000 * n ≤ levelOf O x then x else c)
/-- The lender told so far; none: one had not so much in its Top. -/
def lendL (O P : List Q4) (n : Int) (L : List Int) : Option Int := L.foldl (lendStep O P n) (some (-1))
def lendAns (O P : List Q4) (n : Int) (L : List Int) : Int := match lendL O P n L with | some c => c | none => -1
theorem lendL_snoc (O P : List Q4) (n : Int) (L : List Int) (x : Int) : lendL O P n (L ++ [x]) = lendStep O P n (lendL O P n L) x := by unfold lendL; rw [List.foldl_append]; rfl
theorem lend_stop {O P : List Q4} {n : Int} : ∀ (R : List Int), R.foldl (lendStep O P n) none = none
  | [] => rfl
  | x :: R => lend_stop R
theorem lendL_none {O P : List Q4} {n : Int} {pre L : List Int} (h : lendL O P n pre = none) (hp : pre <+: L) : lendL O P n L = none := by
  obtain ⟨R, rfl⟩ := hp
  unfold lendL at *
  rw [List.foldl_append, h]
  exact lend_stop R
def whoC (L : List Int) (who : Int) : Int := if who < 0 then -1 else match L[who.toNat]? with | some c => c | none => -1
theorem lend_ask {O P : List Q4} {n : Int} {L : List Int} (h0 : ∀ x ∈ L, 0 ≤ x) : ∀ j, j ≤ L.length → lendL O P n (L.take j) = match askTo O P n L j with | none => none | some who => some (whoC L who)
  | 0, _ => by simp [lendL, askTo, whoC]
  | j + 1, hj => by
    have hlt : j < L.length := by omega
    have ih := lend_ask (O := O) (P := P) (n := n) h0 j (by omega)
    rw [List.take_succ_eq_append_getElem hlt, lendL_snoc, ih]
    show _ = match (match askTo O P n L j with | none => none | some who => match L[j]? with | none => some who | some c => if levelOf P c < 1000000000 * n then none else some (if who < 0 ∧ 1000000000 * n ≤ levelOf O c then (j : Int) else who)) with | none => none | some who => some (whoC L who)
    cases ha : askTo O P n L j with
    | none => rfl
    | some who =>
      simp only [List.getElem?_eq_getElem hlt, lendStep]
      by_cases hl : levelOf P L[j] < 1000000000 * n
      · simp only [if_pos hl]
      · simp only [if_neg hl]
        have hr := ask_range ha
        have hw : whoC L who = -1 ↔ who < 0 := by
          unfold whoC
          rcases hr with rfl | ⟨k0, k1⟩
          · simp
          · have hk : who.toNat < L.length := by omega
            rw [if_neg (by omega), List.getElem?_eq_getElem hk]
            have := h0 _ (List.getElem_mem hk)
            simp only
            omega
        by_cases hc : who < 0 ∧ 1000000000 * n ≤ levelOf O L[j]
        · rw [if_pos hc, if_pos ⟨hw.2 hc.1, hc.2⟩]
          unfold whoC
          rw [if_neg (by omega), Int.toNat_natCast, List.getElem?_eq_getElem hlt]
        · rw [if_neg hc, if_neg (fun k => hc ⟨hw.1 k.1, k.2⟩)]
theorem lend_ans {O P : List Q4} {n : Int} {L : List Int} (h0 : ∀ x ∈ L, 0 ≤ x) : lendAns O P n L = whoC L (askOf O P n L) := by
  have h := lend_ask (O := O) (P := P) (n := n) h0 L.length (Nat.le_refl _)
  rw [List.take_length] at h
  unfold lendAns askOf
  rw [h]
  cases askTo O P n L L.length with
  | none => rfl
  | some who => rfl
/-- What Ask tells, by the lender. -/
theorem ask_lend {T O P : List Q4} {leaf now n : Int} (h : toldB T O P leaf now n = true) (h0 : ∀ x ∈ pathOf T leaf, 0 ≤ x) : askAns T O P leaf now n = lendAns (fills now O) (fills now P) n (pathOf T leaf) := by
  rw [lend_ans h0]
  show askAns T O P leaf now n = whoC (pathOf T leaf) (whoOf T O P leaf now n)
  rcases who_range T O P leaf now n with hw | ⟨k0, k1⟩
  · rw [ask_no h hw, hw]
    rfl
  · obtain ⟨k, hk⟩ : ∃ k : Nat, whoOf T O P leaf now n = k := ⟨(whoOf T O P leaf now n).toNat, by omega⟩
    have hlt : k < (pathOf T leaf).length := by omega
    rw [ask_yes h hk hlt, hk]
    unfold whoC
    rw [if_neg (by omega), Int.toNat_natCast, List.getElem?_eq_getElem hlt]
end Go.Proofs.Ytmophpbfaonfmac

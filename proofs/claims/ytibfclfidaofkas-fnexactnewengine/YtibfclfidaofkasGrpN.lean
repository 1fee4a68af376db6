/- Lemmas on the way, of several texts: SpecFill7, SpecFill8, SpecAsk2, RetreeMath. -/
import Derived.Test.YtibfclfidaofkasSpecCopy
import Derived.Test.YtibfclfidaofkasGrpM
import Derived.Deep.CutRange
import Derived.Deep.DeepCutAuto
import Derived.Test.YtibfclfidaofkasGrpH
namespace Go.Proofs.Ytibfclfidaofkas
open Go.ChangeShapes Go.WideShapes Go.ChangeAt Go.RowKit
set_option maxRecDepth 100000
set_option linter.unusedVariables false
set_option linter.unusedSimpArgs false

theorem flatQ_set (xs : List Q4) : ∀ (i : Nat) (q : Q4), ((((flatQ xs).set (i * 4) (.int .i64 q.1)).set (i * 4 + 1) (.int .i64 q.2.1)).set (i * 4 + 2) (.int .i64 q.2.2.1)).set (i * 4 + 3) (.int .i64 q.2.2.2) = flatQ (xs.set i q) := by
  induction xs with
  | nil => intro i q; rfl
  | cons x xs ih =>
    intro i q
    have e : flatQ (x :: xs) = Value.int .i64 x.1 :: Value.int .i64 x.2.1 :: Value.int .i64 x.2.2.1 :: Value.int .i64 x.2.2.2 :: flatQ xs := rfl
    cases i with
    | zero => rfl
    | succ i =>
      rw [e]
      have a0 : (i + 1) * 4 = i * 4 + 1 + 1 + 1 + 1 := by omega
      have a1 : i * 4 + 1 + 1 + 1 + 1 + 1 = i * 4 + 1 + 1 + 1 + 1 + 1 := rfl
      rw [a0]
      show Value.int .i64 x.1 :: Value.int .i64 x.2.1 :: Value.int .i64 x.2.2.1 :: Value.int .i64 x.2.2.2 :: ((((flatQ xs).set (i * 4) (.int .i64 q.1)).set (i * 4 + 1) (.int .i64 q.2.1)).set (i * 4 + 2) (.int .i64 q.2.2.1)).set (i * 4 + 3) (.int .i64 q.2.2.2) = flatQ (x :: xs.set i q)
      rw [ih i q]
      rfl
theorem row_putQ {w : World} {base g n cap : Nat} {t : TypeId} {xs : List Q4} (h : w.ownsRow base t 4 (.slice (some ⟨g, 0, none⟩) n cap) n (flatQ xs)) (i : Nat) (q : Q4) : (putQ w g (i * 4) q).ownsRow base t 4 (.slice (some ⟨g, 0, none⟩) n cap) n (flatQ (xs.set i q)) := by
  rw [← flatQ_set]
  exact ((((h.stored (i * 4) _).1.stored (i * 4 + 1) _).1.stored (i * 4 + 2) _).1.stored (i * 4 + 3) _).1
theorem putQ_grown (w : World) (g o : Nat) (q : Q4) : w.grownBy (putQ w g o q) (some g) := by
  have h := putQ_only (x := q) (o := o) (Only.refl g w)
  exact ⟨h.os, h.tape, h.output, h.size, fun k hk hn => h.block k hk (fun e => hn (by rw [e]))⟩
/-- What the filling keeps: what came in, the answer's place, the copy in a variable; its three rows. -/
structure FlSt (w W : World) (b2 : Nat) (sT sO sP : Value) (gT cT gO cO gP cP : Nat) (T X Y : List Q4) : Prop where
  kept : Kept w [(w.heap.size, 0, sT), (w.heap.size, 1, sO), (w.heap.size, 2, sP), (w.heap.size + 1, 0, .slice none 0 0), (w.heap.size + 1, 1, .slice none 0 0), (w.heap.size + 1, 2, .slice none 0 0), (b2, 0, .slice (some ⟨gT, 0, none⟩) T.length cT), (b2, 1, .slice (some ⟨gO, 0, none⟩) X.length cO), (b2, 2, .slice (some ⟨gP, 0, none⟩) Y.length cP)] [w.heap.size + 1] W
  rT : W.ownsRow (w.heap.size + 2) 81 4 (.slice (some ⟨gT, 0, none⟩) T.length cT) T.length (flatQ T)
  rO : W.ownsRow (w.heap.size + 2) 57 4 (.slice (some ⟨gO, 0, none⟩) X.length cO) X.length (flatQ X)
  rP : W.ownsRow (w.heap.size + 2) 57 4 (.slice (some ⟨gP, 0, none⟩) Y.length cP) Y.length (flatQ Y)
  ap : gO ≠ gP
  lo : w.heap.size + 2 ≤ b2
  nO : gO < b2
  nP : gP < b2
  nT : gT < b2
section
variable {w W : World} {b2 : Nat} {sT sO sP : Value} {gT cT gO cO gP cP : Nat} {T X Y : List Q4}
theorem FlSt.next (d : FlSt w W b2 sT sO sP gT cT gO cO gP cP T X Y) {W' : World} (h : Below W.heap.size W W') : FlSt w W' b2 sT sO sP gT cT gO cO gP cP T X Y :=
  ⟨d.kept.next h, row_next d.rT h, row_next d.rO h, row_next d.rP h, d.ap, d.lo, d.nO, d.nP, d.nT⟩
theorem FlSt.low (d : FlSt w W b2 sT sO sP gT cT gO cO gP cP T X Y) : w.heap.size + 2 ≤ gO ∧ w.heap.size + 2 ≤ gP ∧ w.heap.size + 2 ≤ gT := ⟨(d.rO.lt gO rfl).1, (d.rP.lt gP rfl).1, (d.rT.lt gT rfl).1⟩
theorem FlSt.keeps (d : FlSt w W b2 sT sO sP gT cT gO cO gP cP T X Y) {W' : World} {g : Nat} (hg : W.grownBy W' (some g)) (h1 : w.heap.size + 2 ≤ g) (h2 : g ≠ b2) {cs : List (Nat × Nat × Value)} {bs : List Nat} (k : Kept w cs bs W) (hc : ∀ c ∈ cs, c.1 ≤ w.heap.size + 1 ∨ c.1 = b2) (hb : ∀ b ∈ bs, b ≤ w.heap.size + 1) : Kept w cs bs W' := by
  refine k.onlyO (OnlyO.of_grown hg) (fun j e => by have e1 : g = j := Option.some.inj e; omega) (fun c hc' e => ?_) (fun b hb' e => ?_)
  · have e1 : g = c.1 := Option.some.inj e
    rcases hc c hc' with h | h <;> omega
  · have e1 : g = b := Option.some.inj e
    have := hb b hb'
    omega
theorem FlSt.cellsOk : ∀ c ∈ [(w.heap.size, 0, sT), (w.heap.size, 1, sO), (w.heap.size, 2, sP), (w.heap.size + 1, 0, Value.slice none 0 0), (w.heap.size + 1, 1, .slice none 0 0), (w.heap.size + 1, 2, .slice none 0 0), (b2, 0, .slice (some ⟨gT, 0, none⟩) T.length cT), (b2, 1, .slice (some ⟨gO, 0, none⟩) X.length cO), (b2, 2, .slice (some ⟨gP, 0, none⟩) Y.length cP)], c.1 ≤ w.heap.size + 1 ∨ c.1 = b2 := by
  intro c hc
  simp only [List.mem_cons, List.not_mem_nil, or_false] at hc
  rcases hc with rfl | rfl | rfl | rfl | rfl | rfl | rfl | rfl | rfl
  all_goals first | exact .inr rfl | exact .inl (by simp)
theorem FlSt.putO (d : FlSt w W b2 sT sO sP gT cT gO cO gP cP T X Y) (i : Nat) (q : Q4) : FlSt w (putQ W gO (i * 4) q) b2 sT sO sP gT cT gO cO gP cP T (X.set i q) Y := by
  have hl := d.low
  have hg := putQ_grown W gO (i * 4) q
  have hne := d.nO
  have k := d.keeps hg hl.1 (by omega) d.kept FlSt.cellsOk (fun b hb => by simp only [List.mem_cons, List.not_mem_nil, or_false] at hb; omega)
  have ro := row_putQ d.rO i q
  refine ⟨?_, d.rT.kept hg (rows_keep d.rT d.rO (by decide)), ?_, d.rP.kept hg (.inr (fun e => d.ap (Option.some.inj e).symm)), d.ap, d.lo, d.nO, d.nP, d.nT⟩
  · rw [List.length_set]; exact k
  · rw [List.length_set]; exact ro
theorem FlSt.putP (d : FlSt w W b2 sT sO sP gT cT gO cO gP cP T X Y) (i : Nat) (q : Q4) : FlSt w (putQ W gP (i * 4) q) b2 sT sO sP gT cT gO cO gP cP T X (Y.set i q) := by
  have hl := d.low
  have hg := putQ_grown W gP (i * 4) q
  have hne := d.nP
  have k := d.keeps hg hl.2.1 (by omega) d.kept FlSt.cellsOk (fun b hb => by simp only [List.mem_cons, List.not_mem_nil, or_false] at hb; omega)
  have rp := row_putQ d.rP i q
  refine ⟨?_, d.rT.kept hg (rows_keep d.rT d.rP (by decide)), d.rO.kept hg (.inr (fun e => d.ap (Option.some.inj e))), ?_, d.ap, d.lo, d.nO, d.nP, d.nT⟩
  · rw [List.length_set]; exact k
  · rw [List.length_set]; exact rp
/-- Row of buckets at a place: what lies there, and that it may be written. -/
theorem row_at {t : TypeId} {base g n cap i : Nat} {X : List Q4} (h : W.ownsRow base t 4 (.slice (some ⟨g, 0, none⟩) n cap) n (flatQ X)) (hi : i < X.length) (hn : n = X.length) :
    (W.cell? ⟨g, i * 4, none⟩ = some (.int .i64 X[i].1) ∧ W.cell? ⟨g, i * 4 + 1, none⟩ = some (.int .i64 X[i].2.1) ∧ W.cell? ⟨g, i * 4 + 2, none⟩ = some (.int .i64 X[i].2.2.1) ∧ W.cell? ⟨g, i * 4 + 3, none⟩ = some (.int .i64 X[i].2.2.2)) ∧ ∀ j, W.frozen? ⟨g, j, none⟩ = false := by
  obtain ⟨f0, f1, f2, f3⟩ := flatQ_get X i hi
  exact ⟨⟨(h.cellAt _ (by omega)).trans f0, (h.cellAt _ (by omega)).trans f1, (h.cellAt _ (by omega)).trans f2, (h.cellAt _ (by omega)).trans f3⟩, fun j => h.frozenAt j⟩
end
/-- The first k are filled. -/
def mixF (now : Int) (O : List Q4) (k : Nat) : List Q4 := (fills now O).take k ++ O.drop k
theorem mix_length_SpecFill7 (now : Int) (O : List Q4) (k : Nat) (h : k ≤ O.length) : (mixF now O k).length = O.length := by
  unfold mixF
  rw [List.length_append, List.length_take, List.length_drop, fills_length]
  omega
theorem mix_zero_SpecFill7 (now : Int) (O : List Q4) : mixF now O 0 = O := by simp [mixF]
theorem mix_all_SpecFill7 (now : Int) (O : List Q4) : mixF now O O.length = fills now O := by
  unfold mixF
  rw [List.drop_length, List.append_nil, ← fills_length now O, List.take_length]
theorem mix_set_SpecFill7 {now : Int} {O : List Q4} {k : Nat} (h : k < O.length) : (mixF now O k).set k (fillQ now O[k]) = mixF now O (k + 1) := by
  have hf : k < (fills now O).length := by rw [fills_length]; exact h
  unfold mixF
  rw [List.drop_eq_getElem_cons h, List.take_succ_eq_append_getElem hf, fills_at h hf, List.append_assoc, List.set_append_right _ _ (by rw [List.length_take]; omega)]
  congr 1
  rw [List.length_take, Nat.min_eq_left (Nat.le_of_lt hf), Nat.sub_self]
  rfl
end Go.Proofs.Ytibfclfidaofkas
namespace Go.Proofs.Ytibfclfidaofkas
open Go.ChangeShapes Go.WideShapes Go.ChangeAt Go.RowKit
set_option maxRecDepth 100000
set_option linter.unusedVariables false
set_option linter.unusedSimpArgs false

theorem fl_fin {w W : World} {b2 : Nat} {sT sO sP : Value} {gT cT gO cO gP cP : Nat} {T X Y : List Q4} (d : FlSt w W b2 sT sO sP gT cT gO cO gP cP T X Y) {a b c : Value} :
    CpPost w T X Y (.returned (lendV (some ⟨gT, 0, none⟩) T.length cT (some ⟨gO, 0, none⟩) X.length cO (some ⟨gP, 0, none⟩) Y.length cP)) (((W.setCell ⟨w.heap.size + 1, 0, none⟩ a).setCell ⟨w.heap.size + 1, 1, none⟩ b).setCell ⟨w.heap.size + 1, 2, none⟩ c) :=
  ⟨gT, cT, gO, cO, gP, cP, rfl, row_lowC (row_set (row_set (row_set d.rT (by omega)) (by omega)) (by omega)) (by omega), row_lowC (row_set (row_set (row_set d.rO (by omega)) (by omega)) (by omega)) (by omega), row_lowC (row_set (row_set (row_set d.rP (by omega)) (by omega)) (by omega)) (by omega),
    d.ap, ((d.kept.hb.setCell (by simp) _).setCell (by simp) _).setCell (by simp) _⟩
end Go.Proofs.Ytibfclfidaofkas
namespace Go.Proofs.Ytibfclfidaofkas
open Go.ChangeShapes Go.WideShapes Go.ChangeAt Go.RowKit
set_option maxRecDepth 100000
set_option linter.unusedVariables false
set_option linter.unusedSimpArgs false

theorem own_quadC {w : World} {base : Nat} {a : Option Addr} {c : Nat} {t : TypeId} {T : List Q4} (h : w.ownsRow base t 4 (.slice a T.length c) T.length (flatQ T)) : Quad w.heap.size w a T := (own_qv h).quad.2
theorem iv_ismp {w : World} {lo n c : Nat} {a : Option Addr} {xs : List Int} (h : IV w lo (.slice a n c) xs) : ISmp w.heap.size w a xs := by
  obtain ⟨a', c', e, k⟩ := h.smp
  injection e with e1 e2 e3
  subst e1
  exact k
/-- What is asked of a Lend that is right. -/
structure Told (T O P : List Q4) (leaf now n : Int) : Prop where
  lend : IsLend T O P
  l0 : 0 ≤ leaf
  l1 : leaf < T.length
  isLeaf : leafB T leaf = true
  isTime : timeB now = true
  isLate : atOf O ≤ now
  isSeg : segB n = true
theorem told_of {T O P : List Q4} {leaf now n : Int} (h : toldB T O P leaf now n = true) : Told T O P leaf now n := by
  unfold toldB at h
  simp only [Bool.and_eq_true, decide_eq_true_eq] at h
  exact ⟨lend_of h.1.1.1.1.1, h.1.1.1.1.2.1, by have := h.1.1.1.1.2.2; omega, h.1.1.1.2, h.1.1.2, h.1.2, h.2⟩
def whoOf (T O P : List Q4) (leaf now n : Int) : Int := askOf (fills now O) (fills now P) n (pathOf T leaf)
def askAns (T O P : List Q4) (leaf now n : Int) : Int := if toldB T O P leaf now n = true then (match (pathOf T leaf)[(whoOf T O P leaf now n).toNat]? with | some c => if whoOf T O P leaf now n < 0 then -1 else c | none => -1) else -2
theorem who_range (T O P : List Q4) (leaf now n : Int) : whoOf T O P leaf now n = -1 ∨ (0 ≤ whoOf T O P leaf now n ∧ whoOf T O P leaf now n < (pathOf T leaf).length) := ask_bounds _ _ _ _
theorem ask_no {T O P : List Q4} {leaf now n : Int} (h : toldB T O P leaf now n = true) (hw : whoOf T O P leaf now n = -1) : askAns T O P leaf now n = -1 := by
  unfold askAns
  rw [if_pos h, hw]
  cases (pathOf T leaf)[(-1 : Int).toNat]? with
  | none => rfl
  | some c => rfl
theorem ask_yes {T O P : List Q4} {leaf now n : Int} {k : Nat} (h : toldB T O P leaf now n = true) (hw : whoOf T O P leaf now n = k) (hk : k < (pathOf T leaf).length) : askAns T O P leaf now n = (pathOf T leaf)[k] := by
  unfold askAns
  rw [if_pos h, hw, Int.toNat_natCast, List.getElem?_eq_getElem hk]
  simp only
  rw [if_neg (by omega)]
end Go.Proofs.Ytibfclfidaofkas
namespace Go.Proofs.Ytibfclfidaofkas
open Go.ChangeShapes Go.WideShapes Go.ChangeAt Go.RowKit
set_option maxRecDepth 100000
set_option linter.unusedVariables false

def resetQ (now r u : Int) (b : Q4) : Q4 := resetOf b.1 b.2.1 b.2.2.1 b.2.2.2 r u now
def movO (S O : List Q4) (now : Int) : List Q4 := List.zipWith (fun b t => resetQ now t.2.1 t.2.2.2 b) O S
def movP (S P : List Q4) (now : Int) : List Q4 := List.zipWith (fun b t => resetQ now t.2.2.1 t.2.2.2 b) P S
def movB (T O P S : List Q4) (now : Int) : Bool := ((lendB T O P && decide (treeCode S = 0)) && decide (S.length = T.length)) && (decide (atOf O ≤ now) && decide (now ≤ 1000000000000000))
theorem mov_no1 {T O P S : List Q4} {now : Int} (h : lendB T O P = false) : movB T O P S now = false := by unfold movB; rw [h]; rfl
theorem mov_no2 {T O P S : List Q4} {now : Int} (h : ¬ treeCode S = 0) : movB T O P S now = false := by unfold movB; rw [decide_eq_false h, Bool.and_false]; rfl
theorem mov_no3 {T O P S : List Q4} {now : Int} (h : ¬ S.length = T.length) : movB T O P S now = false := by unfold movB; rw [decide_eq_false h, Bool.and_false]; rfl
theorem mov_no4 {T O P S : List Q4} {now : Int} (h : (decide (atOf O ≤ now) && decide (now ≤ 1000000000000000)) = false) : movB T O P S now = false := by unfold movB; rw [h, Bool.and_false]
theorem mov_yes {T O P S : List Q4} {now : Int} (h1 : lendB T O P = true) (h2 : treeCode S = 0) (h3 : S.length = T.length) (h4 : (decide (atOf O ≤ now) && decide (now ≤ 1000000000000000)) = true) : movB T O P S now = true := by
  unfold movB
  rw [h1, decide_eq_true h2, decide_eq_true h3, h4]
  rfl
theorem movO_length {S O : List Q4} {now : Int} (h : O.length = S.length) : (movO S O now).length = S.length := by unfold movO; rw [List.length_zipWith]; omega
theorem movP_length {S P : List Q4} {now : Int} (h : P.length = S.length) : (movP S P now).length = S.length := by unfold movP; rw [List.length_zipWith]; omega
theorem movO_next {S O : List Q4} {now : Int} {k : Nat} (h1 : k < S.length) (h2 : k < O.length) : (movO S O now).take (k + 1) = (movO S O now).take k ++ [resetQ now S[k].2.1 S[k].2.2.2 O[k]] := by
  have h : k < (movO S O now).length := by unfold movO; rw [List.length_zipWith]; omega
  rw [List.take_succ_eq_append_getElem h]
  simp [movO]
theorem movP_next {S P : List Q4} {now : Int} {k : Nat} (h1 : k < S.length) (h2 : k < P.length) : (movP S P now).take (k + 1) = (movP S P now).take k ++ [resetQ now S[k].2.2.1 S[k].2.2.2 P[k]] := by
  have h : k < (movP S P now).length := by unfold movP; rw [List.length_zipWith]; omega
  rw [List.take_succ_eq_append_getElem h]
  simp [movP]
/-- The time at which a right Lend's buckets stand is a time. -/
theorem at_time {T O P : List Q4} (h : IsLend T O P) : 0 ≤ atOf O ∧ atOf O ≤ 1000000000000000 := by
  have l0 := h.tree.l0
  have hO : 0 < O.length := by rw [h.lo]; omega
  have hP : 0 < P.length := by rw [h.lp]; omega
  have hp := pair_ok (h.pair 0 (by omega) hO hP)
  have hb := bok_num hp.oka
  have e : O[0].2.2.2 = atOf O := hp.ta
  rw [← e]
  exact hb.2.2.2
theorem now_time {T O P : List Q4} {now : Int} (h : IsLend T O P) : (timeB now && decide (atOf O ≤ now)) = (decide (atOf O ≤ now) && decide (now ≤ 1000000000000000)) := by
  have ha := at_time h
  unfold timeB
  by_cases h1 : atOf O ≤ now
  · rw [decide_eq_true h1, decide_eq_true (show 0 ≤ now by omega)]
    simp
  · rw [decide_eq_false h1]
    simp
/-- Reset by the rate and the burst that it has already, a bucket is filled. -/
theorem reset_fill {now : Int} {b : Q4} (hb : bokQ b = true) (hn : timeB now = true) : resetQ now b.1 b.2.1 b = fillQ now b := by
  have hk : resetOk b.1 b.2.1 b.2.2.1 b.2.2.2 b.1 b.2.1 now = true := by
    have h2 := hb
    unfold bokQ bokB at h2
    simp only [Bool.and_eq_true] at h2
    unfold resetOk
    have hb' : bokB b.1 b.2.1 b.2.2.1 b.2.2.2 = true := hb
    rw [hb', h2.1.1.1, h2.1.1.2, hn]
    rfl
  have hbn := bok_num hb
  have hf := fill_bounds (r := b.1) (u := b.2.1) (l := b.2.2.1) (t := b.2.2.2) (now := now) hbn.2.1 hbn.2.2.1 hbn.1.1
  unfold resetQ resetOf fillQ
  rw [if_pos hk, Int.min_eq_left hf.2]
theorem mov_fillsO {T O P : List Q4} {now : Int} (h : IsLend T O P) (hn : timeB now = true) : movO T O now = fills now O := by
  refine List.ext_getElem (by rw [movO_length h.lo, fills_length, h.lo]) (fun k h1 h2 => ?_)
  have hk : k < O.length := by rw [fills_length] at h2; exact h2
  have hp := pair_ok (h.pair k (by rw [← h.lo]; exact hk) hk (by rw [h.lp, ← h.lo]; exact hk))
  rw [fills_at hk h2]
  have hT : k < T.length := by rw [← h.lo]; exact hk
  have e : (movO T O now)[k] = resetQ now T[k].2.1 T[k].2.2.2 O[k] := by simp [movO]
  rw [e, ← hp.ra, ← hp.ua]
  exact reset_fill hp.oka hn
theorem mov_fillsP {T O P : List Q4} {now : Int} (h : IsLend T O P) (hn : timeB now = true) : movP T P now = fills now P := by
  refine List.ext_getElem (by rw [movP_length h.lp, fills_length, h.lp]) (fun k h1 h2 => ?_)
  have hk : k < P.length := by rw [fills_length] at h2; exact h2
  have hp := pair_ok (h.pair k (by rw [← h.lp]; exact hk) (by rw [h.lo, ← h.lp]; exact hk) hk)
  rw [fills_at hk h2]
  have hT : k < T.length := by rw [← h.lp]; exact hk
  have e : (movP T P now)[k] = resetQ now T[k].2.2.1 T[k].2.2.2 P[k] := by simp [movP]
  rw [e, ← hp.rb, ← hp.ub]
  exact reset_fill hp.okb hn
end Go.Proofs.Ytibfclfidaofkas

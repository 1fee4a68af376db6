/- What spec.l7Fill answers: all buckets filled. -/
import Derived.Test.YtcepopboldnicalSpecCopy
import Derived.Test.YtcepopboldnicalLendMath
import Derived.Deep.CutRange
namespace Go.Proofs.Ytcepopboldnical
open Go.ChangeShapes Go.WideShapes Go.ChangeAt Go.RowKit
set_option maxRecDepth 100000
set_option linter.unusedVariables false
set_option linter.unusedSimpArgs false

theorem flatQ_set (xs : List Q4) : ∀ (i : Nat) (q : Q4), ((((flatQ xs).set (i * 4) (.int .i64 q.1)).set (i * 4 + 1) (.int .i64 q.2.1)).set (i * 4 + 2) (.int .i64 q.2.2.1)).set (i * 4 + 3) (.int .i64 q.2.2.2) = flatQ (xs.set i q) := by
  induction xs with
  | nil => intro i q; rfl
  | cons x xs ih =>
    intro i q
    have e : flatQ (x :: xs) = Value.int .i64 x.1 :: Value.int .i64 x.2.1 :: Value.int .i64 x.2.2.1 :: Value.int .i64 x.2.2.2 :: flatQ xs := rfl
    cases i with
    | zero => rfl
    | succ i =>
      rw [e]
      have a0 : (i + 1) * 4 = i * 4 + 1 + 1 + 1 + 1 := by omega
      have a1 : i * 4 + 1 + 1 + 1 + 1 + 1 = i * 4 + 1 + 1 + 1 + 1 + 1 := rfl
      rw [a0]
      show Value.int .i64 x.1 :: Value.int .i64 x.2.1 :: Value.int .i64 x.2.2.1 :: Value.int .i64 x.2.2.2 :: ((((flatQ xs).set (i * 4) (.int .i64 q.1)).set (i * 4 + 1) (.int .i64 q.2.1)).set (i * 4 + 2) (.int .i64 q.2.2.1)).set (i * 4 + 3) (.int .i64 q.2.2.2) = flatQ (x :: xs.set i q)
      rw [ih i q]
      rfl
theorem row_putQ {w : World} {base g n cap : Nat} {t : TypeId} {xs : List Q4} (h : w.ownsRow base t 4 (.slice (some ⟨g, 0, none⟩) n cap) n (flatQ xs)) (i : Nat) (q : Q4) : (putQ w g (i * 4) q).ownsRow base t 4 (.slice (some ⟨g, 0, none⟩) n cap) n (flatQ (xs.set i q)) := by
  rw [← flatQ_set]
  exact ((((h.stored (i * 4) _).1.stored (i * 4 + 1) _).1.stored (i * 4 + 2) _).1.stored (i * 4 + 3) _).1
theorem putQ_grown (w : World) (g o : Nat) (q : Q4) : w.grownBy (putQ w g o q) (some g) := by
  have h := putQ_only (x := q) (o := o) (Only.refl g w)
  exact ⟨h.os, h.tape, h.output, h.size, fun k hk hn => h.block k hk (fun e => hn (by rw [e]))⟩
/-- What the filling keeps: what came in, the answer's place, the copy in a variable; its three rows. -/
structure FlSt (w W : World) (b2 : Nat) (sT sO sP : Value) (gT cT gO cO gP cP : Nat) (T X Y : List Q4) : Prop where
  kept : Kept w [(w.heap.size, 0, sT), (w.heap.size, 1, sO), (w.heap.size, 2, sP), (w.heap.size + 1, 0, .slice none 0 0), (w.heap.size + 1, 1, .slice none 0 0), (w.heap.size + 1, 2, .slice none 0 0), (b2, 0, .slice (some ⟨gT, 0, none⟩) T.length cT), (b2, 1, .slice (some ⟨gO, 0, none⟩) X.length cO), (b2, 2, .slice (some ⟨gP, 0, none⟩) Y.length cP)] [w.heap.size + 1] W
  rT : W.ownsRow (w.heap.size + 2) 52 4 (.slice (some ⟨gT, 0, none⟩) T.length cT) T.length (flatQ T)
  rO : W.ownsRow (w.heap.size + 2) 63 4 (.slice (some ⟨gO, 0, none⟩) X.length cO) X.length (flatQ X)
  rP : W.ownsRow (w.heap.size + 2) 63 4 (.slice (some ⟨gP, 0, none⟩) Y.length cP) Y.length (flatQ Y)
  ap : gO ≠ gP
  lo : w.heap.size + 2 ≤ b2
  nO : gO < b2
  nP : gP < b2
  nT : gT < b2
section
variable {w W : World} {b2 : Nat} {sT sO sP : Value} {gT cT gO cO gP cP : Nat} {T X Y : List Q4}
theorem FlSt.next (d : FlSt w W b2 sT sO sP gT cT gO cO gP cP T X Y) {W' : World} (h : Below W.heap.size W W') : FlSt w W' b2 sT sO sP gT cT gO cO gP cP T X Y :=
  ⟨d.kept.next h, row_next d.rT h, row_next d.rO h, row_next d.rP h, d.ap, d.lo, d.nO, d.nP, d.nT⟩
theorem FlSt.low (d : FlSt w W b2 sT sO sP gT cT gO cO gP cP T X Y) : w.heap.size + 2 ≤ gO ∧ w.heap.size + 2 ≤ gP ∧ w.heap.size + 2 ≤ gT := ⟨(d.rO.lt gO rfl).1, (d.rP.lt gP rfl).1, (d.rT.lt gT rfl).1⟩
theorem FlSt.keeps (d : FlSt w W b2 sT sO sP gT cT gO cO gP cP T X Y) {W' : World} {g : Nat} (hg : W.grownBy W' (some g)) (h1 : w.heap.size + 2 ≤ g) (h2 : g ≠ b2) {cs : List (Nat × Nat × Value)} {bs : List Nat} (k : Kept w cs bs W) (hc : ∀ c ∈ cs, c.1 ≤ w.heap.size + 1 ∨ c.1 = b2) (hb : ∀ b ∈ bs, b ≤ w.heap.size + 1) : Kept w cs bs W' := by
  refine k.onlyO (OnlyO.of_grown hg) (fun j e => by have e1 : g = j := Option.some.inj e; omega) (fun c hc' e => ?_) (fun b hb' e => ?_)
  · have e1 : g = c.1 := Option.some.inj e
    rcases hc c hc' with h | h <;> omega
  · have e1 : g = b := Option.some.inj e
    have := hb b hb'
    omega
theorem FlSt.cellsOk : ∀ c ∈ [(w.heap.size, 0, sT), (w.heap.size, 1, sO), (w.heap.size, 2, sP), (w.heap.size + 1, 0, Value.slice none 0 0), (w.heap.size + 1, 1, .slice none 0 0), (w.heap.size + 1, 2, .slice none 0 0), (b2, 0, .slice (some ⟨gT, 0, none⟩) T.length cT), (b2, 1, .slice (some ⟨gO, 0, none⟩) X.length cO), (b2, 2, .slice (some ⟨gP, 0, none⟩) Y.length cP)], c.1 ≤ w.heap.size + 1 ∨ c.1 = b2 := by
  intro c hc
  simp only [List.mem_cons, List.not_mem_nil, or_false] at hc
  rcases hc with rfl | rfl | rfl | rfl | rfl | rfl | rfl | rfl | rfl
  all_goals first | exact .inr rfl | exact .inl (by simp)
theorem FlSt.putO (d : FlSt w W b2 sT sO sP gT cT gO cO gP cP T X Y) (i : Nat) (q : Q4) : FlSt w (putQ W gO (i * 4) q) b2 sT sO sP gT cT gO cO gP cP T (X.set i q) Y := by
  have hl := d.low
  have hg := putQ_grown W gO (i * 4) q
  have hne := d.nO
  have k := d.keeps hg hl.1 (by omega) d.kept FlSt.cellsOk (fun b hb => by simp only [List.mem_cons, List.not_mem_nil, or_false] at hb; omega)
  have ro := row_putQ d.rO i q
  refine ⟨?_, d.rT.kept hg (rows_keep d.rT d.rO (by decide)), ?_, d.rP.kept hg (.inr (fun e => d.ap (Option.some.inj e).symm)), d.ap, d.lo, d.nO, d.nP, d.nT⟩
  · rw [List.length_set]; exact k
  · rw [List.length_set]; exact ro
theorem FlSt.putP (d : FlSt w W b2 sT sO sP gT cT gO cO gP cP T X Y) (i : Nat) (q : Q4) : FlSt w (putQ W gP (i * 4) q) b2 sT sO sP gT cT gO cO gP cP T X (Y.set i q) := by
  have hl := d.low
  have hg := putQ_grown W gP (i * 4) q
  have hne := d.nP
  have k := d.keeps hg hl.2.1 (by omega) d.kept FlSt.cellsOk (fun b hb => by simp only [List.mem_cons, List.not_mem_nil, or_false] at hb; omega)
  have rp := row_putQ d.rP i q
  refine ⟨?_, d.rT.kept hg (rows_keep d.rT d.rP (by decide)), d.rO.kept hg (.inr (fun e => d.ap (Option.some.inj e))), ?_, d.ap, d.lo, d.nO, d.nP, d.nT⟩
  · rw [List.length_set]; exact k
  · rw [List.length_set]; exact rp
/-- Row of buckets at a place: what lies there, and that it may be written. -/
theorem row_at {t : TypeId} {base g n cap i : Nat} {X : List Q4} (h : W.ownsRow base t 4 (.slice (some ⟨g, 0, none⟩) n cap) n (flatQ X)) (hi : i < X.length) (hn : n = X.length) :
    (W.cell? ⟨g, i * 4, none⟩ = some (.int .i64 X[i].1) ∧ W.cell? ⟨g, i * 4 + 1, none⟩ = some (.int .i64 X[i].2.1) ∧ W.cell? ⟨g, i * 4 + 2, none⟩ = some (.int .i64 X[i].2.2.1) ∧ W.cell? ⟨g, i * 4 + 3, none⟩ = some (.int .i64 X[i].2.2.2)) ∧ ∀ j, W.frozen? ⟨g, j, none⟩ = false := by
  obtain ⟨f0, f1, f2, f3⟩ := flatQ_get X i hi
  exact ⟨⟨(h.cellAt _ (by omega)).trans f0, (h.cellAt _ (by omega)).trans f1, (h.cellAt _ (by omega)).trans f2, (h.cellAt _ (by omega)).trans f3⟩, fun j => h.frozenAt j⟩
end
/-- The first k are filled. -/
def mixF (now : Int) (O : List Q4) (k : Nat) : List Q4 := (fills now O).take k ++ O.drop k
theorem mix_length (now : Int) (O : List Q4) (k : Nat) (h : k ≤ O.length) : (mixF now O k).length = O.length := by
  unfold mixF
  rw [List.length_append, List.length_take, List.length_drop, fills_length]
  omega
theorem mix_zero (now : Int) (O : List Q4) : mixF now O 0 = O := by simp [mixF]
theorem mix_all (now : Int) (O : List Q4) : mixF now O O.length = fills now O := by
  unfold mixF
  rw [List.drop_length, List.append_nil, ← fills_length now O, List.take_length]
theorem mix_set {now : Int} {O : List Q4} {k : Nat} (h : k < O.length) : (mixF now O k).set k (fillQ now O[k]) = mixF now O (k + 1) := by
  have hf : k < (fills now O).length := by rw [fills_length]; exact h
  unfold mixF
  rw [List.drop_eq_getElem_cons h, List.take_succ_eq_append_getElem hf, fills_at h hf, List.append_assoc, List.set_append_right _ _ (by rw [List.length_take]; omega)]
  congr 1
  rw [List.length_take, Nat.min_eq_left (Nat.le_of_lt hf), Nat.sub_self]
  rfl
end Go.Proofs.Ytcepopboldnical

/- Lemmas on the way, of several texts: SpendMath, SpendSt, NewSt, SpecNew7, SpecSpend. -/
import Derived.Test.YtcepopboldnicamGrpN
import Derived.Test.YtcepopboldnicamGrpM
import Derived.Deep.DeepCutAuto
namespace Go.Proofs.Ytcepopboldnicam
open Go.ChangeShapes Go.WideShapes Go.ChangeAt Go.RowKit
set_option maxRecDepth 100000
set_option linter.unusedVariables false

/-- A bucket with another level. -/
def lvlQ (q : Q4) (l : Int) : Q4 := (q.1, q.2.1, l, q.2.2.2)
def takeTop (n : Int) (q : Q4) : Q4 := lvlQ q (q.2.2.1 - 1000000000 * n)
def takeOwn (n : Int) (q : Q4) : Q4 := lvlQ q (max 0 (q.2.2.1 - 1000000000 * n))
def modAt (f : Q4 → Q4) (xs : List Q4) (c : Int) : List Q4 := match xs[c.toNat]? with | some q => xs.set c.toNat (f q) | none => xs
theorem modAt_at {f : Q4 → Q4} {xs : List Q4} {i : Nat} (h : i < xs.length) : modAt f xs (i : Int) = xs.set i (f xs[i]) := by unfold modAt; rw [Int.toNat_natCast, List.getElem?_eq_getElem h]
theorem modAt_length (f : Q4 → Q4) (xs : List Q4) (c : Int) : (modAt f xs c).length = xs.length := by
  unfold modAt
  split
  · rw [List.length_set]
  · rfl
/-- Behind the first j places of the path. -/
def topTo (n : Int) (P : List Q4) (L : List Int) : Nat → List Q4
  | 0 => P
  | j + 1 => match L[j]? with | some c => modAt (takeTop n) (topTo n P L j) c | none => topTo n P L j
def ownTo (n : Int) (k : Int) (O : List Q4) (L : List Int) : Nat → List Q4
  | 0 => O
  | j + 1 => match L[j]? with | some c => if k ≤ (j : Int) then modAt (takeOwn n) (ownTo n k O L j) c else ownTo n k O L j | none => ownTo n k O L j
theorem topTo_length (n : Int) (P : List Q4) (L : List Int) : ∀ j, (topTo n P L j).length = P.length
  | 0 => rfl
  | j + 1 => by
    unfold topTo
    split
    · rw [modAt_length, topTo_length n P L j]
    · exact topTo_length n P L j
theorem ownTo_length (n k : Int) (O : List Q4) (L : List Int) : ∀ j, (ownTo n k O L j).length = O.length
  | 0 => rfl
  | j + 1 => by
    unfold ownTo
    split
    · split
      · rw [modAt_length, ownTo_length n k O L j]
      · exact ownTo_length n k O L j
    · exact ownTo_length n k O L j
theorem topTo_next {n : Int} {P : List Q4} {L : List Int} {j : Nat} (h : j < L.length) : topTo n P L (j + 1) = modAt (takeTop n) (topTo n P L j) L[j] := by
  show (match L[j]? with | some c => modAt (takeTop n) (topTo n P L j) c | none => topTo n P L j) = _
  rw [List.getElem?_eq_getElem h]
theorem ownTo_yes {n k : Int} {O : List Q4} {L : List Int} {j : Nat} (h : j < L.length) (hk : k ≤ (j : Int)) : ownTo n k O L (j + 1) = modAt (takeOwn n) (ownTo n k O L j) L[j] := by
  show (match L[j]? with | some c => if k ≤ (j : Int) then modAt (takeOwn n) (ownTo n k O L j) c else ownTo n k O L j | none => ownTo n k O L j) = _
  rw [List.getElem?_eq_getElem h]
  simp only [if_pos hk]
theorem ownTo_no {n k : Int} {O : List Q4} {L : List Int} {j : Nat} (h : j < L.length) (hk : ¬ k ≤ (j : Int)) : ownTo n k O L (j + 1) = ownTo n k O L j := by
  show (match L[j]? with | some c => if k ≤ (j : Int) then modAt (takeOwn n) (ownTo n k O L j) c else ownTo n k O L j | none => ownTo n k O L j) = _
  rw [List.getElem?_eq_getElem h]
  simp only [if_neg hk]
/-- What Spend answers. -/
def spendF (T O P : List Q4) (leaf now n : Int) : Bool := toldB T O P leaf now n && decide (0 ≤ whoOf T O P leaf now n)
def spendT (T O P : List Q4) (leaf now n : Int) : List Q4 := if toldB T O P leaf now n = true then T else []
def spendO (T O P : List Q4) (leaf now n : Int) : List Q4 := if toldB T O P leaf now n = true then (if whoOf T O P leaf now n < 0 then fills now O else ownTo n (whoOf T O P leaf now n) (fills now O) (pathOf T leaf) (pathOf T leaf).length) else []
def spendP (T O P : List Q4) (leaf now n : Int) : List Q4 := if toldB T O P leaf now n = true then (if whoOf T O P leaf now n < 0 then fills now P else topTo n (fills now P) (pathOf T leaf) (pathOf T leaf).length) else []
end Go.Proofs.Ytcepopboldnicam
namespace Go.Proofs.Ytcepopboldnicam
open Go.ChangeShapes Go.WideShapes Go.ChangeAt Go.RowKit
set_option maxRecDepth 100000
set_option linter.unusedVariables false

theorem flatQ_lvl (xs : List Q4) : ∀ (i : Nat) (h : i < xs.length) (l : Int), (flatQ xs).set (i * 4 + 2) (.int .i64 l) = flatQ (xs.set i (lvlQ xs[i] l)) := by
  induction xs with
  | nil => intro i h; cases h
  | cons x xs ih =>
    intro i h l
    cases i with
    | zero => rfl
    | succ i =>
      have hi : i < xs.length := by simpa using h
      have e : flatQ (x :: xs) = Value.int .i64 x.1 :: Value.int .i64 x.2.1 :: Value.int .i64 x.2.2.1 :: Value.int .i64 x.2.2.2 :: flatQ xs := rfl
      rw [e, show (i + 1) * 4 + 2 = i * 4 + 2 + 1 + 1 + 1 + 1 by omega]
      show Value.int .i64 x.1 :: Value.int .i64 x.2.1 :: Value.int .i64 x.2.2.1 :: Value.int .i64 x.2.2.2 :: (flatQ xs).set (i * 4 + 2) (.int .i64 l) = flatQ (x :: xs.set i (lvlQ xs[i] l))
      rw [ih i hi l]
      rfl
section
variable {w W : World} {b2 : Nat} {sT sO sP : Value} {gT cT gO cO gP cP : Nat} {T X Y : List Q4}
theorem FlSt.lvlO (d : FlSt w W b2 sT sO sP gT cT gO cO gP cP T X Y) (i : Nat) (h : i < X.length) (l : Int) : FlSt w (W.setCell ⟨gO, i * 4 + 2, none⟩ (.int .i64 l)) b2 sT sO sP gT cT gO cO gP cP T (X.set i (lvlQ X[i] l)) Y := by
  have hl := d.low
  have hg := grown_set W gO (i * 4 + 2) (.int .i64 l)
  have hne := d.nO
  have k := d.keeps hg hl.1 (by omega) d.kept FlSt.cellsOk (fun b hb => by simp only [List.mem_cons, List.not_mem_nil, or_false] at hb; omega)
  have ro := (d.rO.stored (i * 4 + 2) (.int .i64 l)).1
  rw [flatQ_lvl X i h l] at ro
  refine ⟨?_, d.rT.kept hg (rows_keep d.rT d.rO (by decide)), ?_, d.rP.kept hg (.inr (fun e => d.ap (Option.some.inj e).symm)), d.ap, d.lo, d.nO, d.nP, d.nT⟩
  · rw [List.length_set]; exact k
  · rw [List.length_set]; exact ro
theorem FlSt.lvlP (d : FlSt w W b2 sT sO sP gT cT gO cO gP cP T X Y) (i : Nat) (h : i < Y.length) (l : Int) : FlSt w (W.setCell ⟨gP, i * 4 + 2, none⟩ (.int .i64 l)) b2 sT sO sP gT cT gO cO gP cP T X (Y.set i (lvlQ Y[i] l)) := by
  have hl := d.low
  have hg := grown_set W gP (i * 4 + 2) (.int .i64 l)
  have hne := d.nP
  have k := d.keeps hg hl.2.1 (by omega) d.kept FlSt.cellsOk (fun b hb => by simp only [List.mem_cons, List.not_mem_nil, or_false] at hb; omega)
  have rp := (d.rP.stored (i * 4 + 2) (.int .i64 l)).1
  rw [flatQ_lvl Y i h l] at rp
  refine ⟨?_, d.rT.kept hg (rows_keep d.rT d.rP (by decide)), d.rO.kept hg (.inr (fun e => d.ap (Option.some.inj e))), ?_, d.ap, d.lo, d.nO, d.nP, d.nT⟩
  · rw [List.length_set]; exact k
  · rw [List.length_set]; exact rp
end
/-- All levels lie between a and b. -/
def LvlIn (a b : Int) (xs : List Q4) : Prop := ∀ i (h : i < xs.length), a ≤ xs[i].2.2.1 ∧ xs[i].2.2.1 ≤ b
theorem LvlIn.set {a b : Int} {xs : List Q4} (h : LvlIn a b xs) (i : Nat) (q : Q4) (hq : a ≤ q.2.2.1 ∧ q.2.2.1 ≤ b) : LvlIn a b (xs.set i q) := by
  intro j hj
  rw [List.getElem_set]
  split
  · exact hq
  · exact h j (by simpa using hj)
theorem LvlIn.low {a a' b : Int} {xs : List Q4} (h : LvlIn a b xs) (ha : a' ≤ a) : LvlIn a' b xs := fun i hi => ⟨by have := (h i hi).1; omega, (h i hi).2⟩
theorem top_levels {n : Int} {P : List Q4} {L : List Int} (hn : 1 ≤ n ∧ n ≤ 1500) (hP : LvlIn 0 1000000000000000000 P) : ∀ j : Nat, LvlIn (-(1500000000000 * (j : Int))) 1000000000000000000 (topTo n P L j)
  | 0 => by show LvlIn _ _ P; exact hP.low (by omega)
  | j + 1 => by
    have ih := (top_levels (L := L) hn hP j).low (a' := -(1500000000000 * ((j + 1 : Nat) : Int))) (by omega)
    unfold topTo
    split
    · unfold modAt
      split
      · rename_i q hq
        obtain ⟨hl, e⟩ := List.getElem?_eq_some_iff.1 hq
        have h0 := top_levels (L := L) hn hP j _ hl
        rw [e] at h0
        refine ih.set _ _ ?_
        simp only [takeTop, lvlQ]
        omega
      · exact ih
    · exact ih
theorem own_levels {n k : Int} {O : List Q4} {L : List Int} (hn : 1 ≤ n ∧ n ≤ 1500) (hO : LvlIn 0 1000000000000000000 O) : ∀ j : Nat, LvlIn 0 1000000000000000000 (ownTo n k O L j)
  | 0 => hO
  | j + 1 => by
    have ih := own_levels (k := k) (L := L) hn hO j
    unfold ownTo
    split
    · split
      · unfold modAt
        split
        · rename_i q hq
          obtain ⟨hl, e⟩ := List.getElem?_eq_some_iff.1 hq
          have h0 := ih _ hl
          rw [e] at h0
          refine ih.set _ _ ?_
          simp only [takeOwn, lvlQ]
          omega
        · exact ih
      · exact ih
    · exact ih
end Go.Proofs.Ytcepopboldnicam
namespace Go.Proofs.Ytcepopboldnicam
open Go.ChangeShapes Go.WideShapes Go.ChangeAt Go.RowKit
set_option maxRecDepth 100000
set_option linter.unusedVariables false
set_option linter.unusedSimpArgs false

/-- The answer's place at w.heap.size, the Lend in variable b2, its three rows. -/
structure NlSt (w W : World) (b2 : Nat) (vT vO vP : Value) (T X Y : List Q4) : Prop where
  kept : Kept w [(w.heap.size, 0, .slice none 0 0), (w.heap.size, 1, .slice none 0 0), (w.heap.size, 2, .slice none 0 0), (b2, 0, vT), (b2, 1, vO), (b2, 2, vP)] [w.heap.size, b2] W
  rT : W.ownsRow (w.heap.size + 1) 83 4 vT T.length (flatQ T)
  rO : W.ownsRow (w.heap.size + 1) 73 4 vO X.length (flatQ X)
  rP : W.ownsRow (w.heap.size + 1) 73 4 vP Y.length (flatQ Y)
  ap : ∀ g, vO.ownBlock = some g → vP.ownBlock ≠ some g
  lo : w.heap.size + 1 ≤ b2
  sz : b2 < W.heap.size
  nT : vT.ownBlock ≠ some b2
  nO : vO.ownBlock ≠ some b2
  nP : vP.ownBlock ≠ some b2
section
variable {w W : World} {b2 : Nat} {vT vO vP : Value} {T X Y : List Q4}
theorem NlSt.next (d : NlSt w W b2 vT vO vP T X Y) {W' : World} (h : Below W.heap.size W W') : NlSt w W' b2 vT vO vP T X Y :=
  ⟨d.kept.next h, row_next d.rT h, row_next d.rO h, row_next d.rP h, d.ap, d.lo, Nat.lt_of_lt_of_le d.sz h.size, d.nT, d.nO, d.nP⟩
theorem NlSt.mem {c : Nat × Nat × Value} (hc : c ∈ [(w.heap.size, 0, Value.slice none 0 0), (w.heap.size, 1, .slice none 0 0), (w.heap.size, 2, .slice none 0 0), (b2, 0, vT), (b2, 1, vO), (b2, 2, vP)]) : c.1 = w.heap.size ∨ c.1 = b2 := by
  simp only [List.mem_cons, List.not_mem_nil, or_false] at hc
  rcases hc with rfl | rfl | rfl | rfl | rfl | rfl
  all_goals first | exact .inl rfl | exact .inr rfl
theorem NlSt.keeps (d : NlSt w W b2 vT vO vP T X Y) {W' : World} {row : Option Nat} (hg : W.grownBy W' row) (h1 : ∀ g, row = some g → w.heap.size + 1 ≤ g) (h2 : row ≠ some b2) : Kept w [(w.heap.size, 0, .slice none 0 0), (w.heap.size, 1, .slice none 0 0), (w.heap.size, 2, .slice none 0 0), (b2, 0, vT), (b2, 1, vO), (b2, 2, vP)] [w.heap.size, b2] W' := by
  refine d.kept.onlyO (OnlyO.of_grown hg) (fun j e => by have := h1 j e; omega) (fun c hc e => ?_) (fun b hb e => ?_)
  · rcases NlSt.mem hc with k | k
    · rw [k] at e
      have := h1 _ e
      omega
    · rw [k] at e
      exact h2 e
  · simp only [List.mem_cons, List.not_mem_nil, or_false] at hb
    rcases hb with rfl | rfl
    · have := h1 _ e
      omega
    · exact h2 e
theorem row_b2 {base b i : Nat} {v u : Value} {t : TypeId} {n : Nat} {xs : List Value} (h : W.ownsRow base t 4 v n xs) (hn : v.ownBlock ≠ some b) : (W.setCell ⟨b, i, none⟩ u).ownsRow base t 4 v n xs := by
  refine h.kept (row := some b) ⟨rfl, rfl, rfl, by simp, fun k _ hk => Below.heap_setCell _ _ _ _ (fun e => hk (by simp [e]))⟩ ?_
  cases ho : v.ownBlock with
  | none => exact .inl rfl
  | some g => exact .inr (fun e => hn (by rw [ho, e]))
/-- Own has grown by an append, and is stored. -/
theorem NlSt.appO (d : NlSt w W b2 vT vO vP T X Y) {W' : World} {v' : Value} {x : Q4} (hg : W.grownBy W' vO.ownBlock) (ho : W'.ownsRow (w.heap.size + 1) 73 4 v' (X.length + 1) (flatQ X ++ flatQ [x])) (hb : v'.ownBlock = vO.ownBlock ∨ v'.ownBlock = some W.heap.size) :
    NlSt w (W'.setCell ⟨b2, 1, none⟩ v') b2 vT v' vP T (X ++ [x]) Y := by
  have hsz := d.sz
  have k := d.keeps hg (fun g e => (d.rO.lt g e).1) d.nO
  have hn' : v'.ownBlock ≠ some b2 := fun e => by
    rcases hb with h | h
    · exact d.nO (h ▸ e)
    · rw [h] at e
      have := Option.some.inj e
      omega
  have hr : W'.ownsRow (w.heap.size + 1) 73 4 v' (X ++ [x]).length (flatQ (X ++ [x])) := by rw [flatQ_append, List.length_append]; exact ho
  have rT := d.rT.kept hg (rows_keep d.rT d.rO (by decide))
  have rP := d.rP.kept hg (by
    cases h : vP.ownBlock with
    | none => exact .inl rfl
    | some g => exact .inr (fun e => d.ap g e.symm h))
  have hlo := d.lo
  refine ⟨(k.put b2 1 v' (by omega)).to (by simp [putIn] <;> omega), row_b2 rT d.nT, row_b2 hr hn', row_b2 rP d.nP, fun g e h => ?_, hlo, by have := hg.size; simp; omega, d.nT, hn', d.nP⟩
  rcases hb with q | q
  · rw [q] at e
    exact d.ap g e h
  · rw [q] at e
    have e1 := Option.some.inj e
    have := (d.rP.lt g h).2
    omega
theorem NlSt.appP (d : NlSt w W b2 vT vO vP T X Y) {W' : World} {v' : Value} {x : Q4} (hg : W.grownBy W' vP.ownBlock) (ho : W'.ownsRow (w.heap.size + 1) 73 4 v' (Y.length + 1) (flatQ Y ++ flatQ [x])) (hb : v'.ownBlock = vP.ownBlock ∨ v'.ownBlock = some W.heap.size) :
    NlSt w (W'.setCell ⟨b2, 2, none⟩ v') b2 vT vO v' T X (Y ++ [x]) := by
  have hsz := d.sz
  have k := d.keeps hg (fun g e => (d.rP.lt g e).1) d.nP
  have hn' : v'.ownBlock ≠ some b2 := fun e => by
    rcases hb with h | h
    · exact d.nP (h ▸ e)
    · rw [h] at e
      have := Option.some.inj e
      omega
  have hr : W'.ownsRow (w.heap.size + 1) 73 4 v' (Y ++ [x]).length (flatQ (Y ++ [x])) := by rw [flatQ_append, List.length_append]; exact ho
  have rT := d.rT.kept hg (rows_keep d.rT d.rP (by decide))
  have rO := d.rO.kept hg (by
    cases h : vO.ownBlock with
    | none => exact .inl rfl
    | some g => exact .inr (fun e => d.ap g h e.symm))
  have hlo := d.lo
  refine ⟨(k.put b2 2 v' (by omega)).to (by simp [putIn] <;> omega), row_b2 rT d.nT, row_b2 rO d.nO, row_b2 hr hn', fun g e h => ?_, hlo, by have := hg.size; simp; omega, d.nT, d.nO, hn'⟩
  rcases hb with q | q
  · rw [q] at h
    exact d.ap g e h
  · rw [q] at h
    have e1 := Option.some.inj h
    have := (d.rO.lt g e).2
    omega
/-- A cell of another block is stored over. -/
theorem NlSt.side (d : NlSt w W b2 vT vO vP T X Y) (c i : Nat) (v : Value) (h1 : w.heap.size + 1 ≤ c) (h2 : c ≠ b2) (hT : vT.ownBlock ≠ some c) (hO : vO.ownBlock ≠ some c) (hP : vP.ownBlock ≠ some c) : NlSt w (W.setCell ⟨c, i, none⟩ v) b2 vT vO vP T X Y := by
  have hg := grown_set W c i v
  have k := d.keeps hg (fun g e => by have e1 : c = g := Option.some.inj e; omega) (fun e => h2 (Option.some.inj e))
  exact ⟨k, row_b2 d.rT hT, row_b2 d.rO hO, row_b2 d.rP hP, d.ap, d.lo, by simpa using d.sz, d.nT, d.nO, d.nP⟩
/-- A bucket in a variable of its own, and a flag. -/
def A8 (w : World) (b2 : Nat) (vT vO vP : Value) (T X Y : List Q4) (q : Q4) (lo : Nat) (s f : Value) (wd : World) : Prop := ∃ b8 fl, s = .pointer (some ⟨b8, 0, none⟩) ∧ f = .bool fl ∧ NlSt w wd b2 vT vO vP T X Y ∧ Cells wd [(b8, 0, .int .i64 q.1), (b8, 1, .int .i64 q.2.1), (b8, 2, .int .i64 q.2.2.1), (b8, 3, .int .i64 q.2.2.2)] ∧ lo ≤ b8
theorem a8_alloc (d : NlSt w W b2 vT vO vP T X Y) {lo : Nat} (hl : lo ≤ W.heap.size) (q : Q4) (fl : Bool) : A8 w b2 vT vO vP T X Y q lo (.pointer (some ⟨W.heap.size, 0, none⟩)) (.bool fl) (W.alloc (.cells #[.int .i64 q.1, .int .i64 q.2.1, .int .i64 q.2.2.1, .int .i64 q.2.2.2] 73)) :=
  ⟨_, fl, rfl, rfl, d.next (new_below _ _), ⟨⟨by simp, by go_simp⟩, ⟨by simp, by go_simp⟩, ⟨by simp, by go_simp⟩, ⟨by simp, by go_simp⟩, trivial⟩, hl⟩
theorem a8_set (d : NlSt w W b2 vT vO vP T X Y) {lo c : Nat} (hl : lo ≤ c) (q : Q4) (fl : Bool) {u0 u1 u2 u3 : Value} (h0 : W.cell? ⟨c, 0, none⟩ = some u0) (h1 : W.cell? ⟨c, 1, none⟩ = some u1) (h2 : W.cell? ⟨c, 2, none⟩ = some u2) (h3 : W.cell? ⟨c, 3, none⟩ = some u3) (k1 : w.heap.size + 1 ≤ c) (k2 : c ≠ b2) (hT : vT.ownBlock ≠ some c) (hO : vO.ownBlock ≠ some c) (hP : vP.ownBlock ≠ some c) :
    A8 w b2 vT vO vP T X Y q lo (.pointer (some ⟨c, 0, none⟩)) (.bool fl) ((((W.setCell ⟨c, 0, none⟩ (.int .i64 q.1)).setCell ⟨c, 1, none⟩ (.int .i64 q.2.1)).setCell ⟨c, 2, none⟩ (.int .i64 q.2.2.1)).setCell ⟨c, 3, none⟩ (.int .i64 q.2.2.2)) := by
  have hs : c < W.heap.size := World.block_lt_of_cell? W _ h0
  have hp := putQ_same (w := W) (g := c) (o := 0) q h0 h1 h2 h3
  exact ⟨c, fl, rfl, rfl, (((d.side c 0 _ k1 k2 hT hO hP).side c 1 _ k1 k2 hT hO hP).side c 2 _ k1 k2 hT hO hP).side c 3 _ k1 k2 hT hO hP, ⟨⟨by simpa using hs, hp.1⟩, ⟨by simpa using hs, hp.2.1⟩, ⟨by simpa using hs, hp.2.2.1⟩, ⟨by simpa using hs, hp.2.2.2⟩, trivial⟩, hl⟩
end
end Go.Proofs.Ytcepopboldnicam
namespace Go.Proofs.Ytcepopboldnicam
open Go.ChangeShapes Go.WideShapes Go.ChangeAt Go.RowKit
set_option maxRecDepth 100000
set_option linter.unusedVariables false
set_option linter.unusedSimpArgs false

/-- A Lend and a flag, made anew. -/
def NewPost (w : World) (T O P : List Q4) (f : Bool) (e : Ending) (w' : World) : Prop := ∃ a1 n1 c1 a2 n2 c2 a3 n3 c3, e = .returned (.tuple #[lendV a1 n1 c1 a2 n2 c2 a3 n3 c3, .bool f]) ∧ LV w' w.heap.size (.slice a1 n1 c1) (.slice a2 n2 c2) (.slice a3 n3 c3) T O P ∧ Below w.heap.size w w'
theorem cells_three {w : World} {g : Nat} {u0 u1 u2 : Value} (h0 : w.cell? ⟨g, 0, none⟩ = some u0) (h1 : w.cell? ⟨g, 1, none⟩ = some u1) (h2 : w.cell? ⟨g, 2, none⟩ = some u2) : ∀ j v, [u0, u1, u2][j]? = some v → w.cell? ⟨g, j, none⟩ = some v := by
  intro j v hv
  match j, hv with
  | 0, hv => obtain rfl : u0 = v := by simpa using hv
             exact h0
  | 1, hv => obtain rfl : u1 = v := by simpa using hv
             exact h1
  | 2, hv => obtain rfl : u2 = v := by simpa using hv
             exact h2
theorem nl_fin {w W : World} {b2 : Nat} {aV aX aY : Option Addr} {nV cV nX cX nY cY : Nat} {T X Y : List Q4} (d : NlSt w W b2 (.slice aV nV cV) (.slice aX nX cX) (.slice aY nY cY) T X Y) {a b c : Value} :
    LV (((W.setCell ⟨w.heap.size, 0, none⟩ a).setCell ⟨w.heap.size, 1, none⟩ b).setCell ⟨w.heap.size, 2, none⟩ c) w.heap.size (.slice aV nV cV) (.slice aX nX cX) (.slice aY nY cY) T X Y ∧ Below w.heap.size w (((W.setCell ⟨w.heap.size, 0, none⟩ a).setCell ⟨w.heap.size, 1, none⟩ b).setCell ⟨w.heap.size, 2, none⟩ c) := by
  refine ⟨⟨own_qv (row_lowC (row_set (row_set (row_set d.rT (by omega)) (by omega)) (by omega)) (by omega)), own_qv (row_lowC (row_set (row_set (row_set d.rO (by omega)) (by omega)) (by omega)) (by omega)), own_qv (row_lowC (row_set (row_set (row_set d.rP (by omega)) (by omega)) (by omega)) (by omega)), ?_, ?_, ?_⟩, ((d.kept.hb.setCell (Nat.le_refl _) _).setCell (Nat.le_refl _) _).setCell (Nat.le_refl _) _⟩
  · exact fun g h1 h2 => rows_apart d.rT d.rO (by decide) g (room_own h1) (room_own h2)
  · exact fun g h1 h2 => rows_apart d.rT d.rP (by decide) g (room_own h1) (room_own h2)
  · exact fun g h1 h2 => d.ap g (room_own h1) (room_own h2)
theorem four_newsC {w : World} {g : Nat} {u0 u1 u2 u3 : Value} (h0 : w.cell? ⟨g, 0, none⟩ = some u0) (h1 : w.cell? ⟨g, 1, none⟩ = some u1) (h2 : w.cell? ⟨g, 2, none⟩ = some u2) (h3 : w.cell? ⟨g, 3, none⟩ = some u3) : ∀ j v, [u0, u1, u2, u3][j]? = some v → w.cell? ((⟨g, 0, none⟩ : Addr).add j) = some v := by
  intro j v hv
  match j, hv with
  | 0, hv => obtain rfl : u0 = v := by simpa using hv
             exact h0
  | 1, hv => obtain rfl : u1 = v := by simpa using hv
             exact h1
  | 2, hv => obtain rfl : u2 = v := by simpa using hv
             exact h2
  | 3, hv => obtain rfl : u3 = v := by simpa using hv
             exact h3
theorem cells_side {w : World} {b c : Nat} {v0 v1 v2 v3 : Value} (h : Cells w [(b, 0, v0), (b, 1, v1), (b, 2, v2), (b, 3, v3)]) (q : Q4) (hn : b ≠ c) : Cells ((((w.setCell ⟨c, 0, none⟩ (.int .i64 q.1)).setCell ⟨c, 1, none⟩ (.int .i64 q.2.1)).setCell ⟨c, 2, none⟩ (.int .i64 q.2.2.1)).setCell ⟨c, 3, none⟩ (.int .i64 q.2.2.2)) [(b, 0, v0), (b, 1, v1), (b, 2, v2), (b, 3, v3)] := by
  refine Cells.onlyO (OnlyO.of_only (putQ_only (x := q) (o := 0) (Only.refl c w))) (fun x hx e => ?_) h
  have e1 : c = x.1 := Option.some.inj e
  simp only [List.mem_cons, List.not_mem_nil, or_false] at hx
  rcases hx with rfl | rfl | rfl | rfl <;> exact hn e1.symm
theorem take_map {T : List Q4} {k : Nat} (h : k < T.length) (f : Q4 → Q4) : (T.take (k + 1)).map f = (T.take k).map f ++ [f T[k]] := by
  rw [List.take_succ_eq_append_getElem h, List.map_append]
  rfl
end Go.Proofs.Ytcepopboldnicam
namespace Go.Proofs.Ytcepopboldnicam
open Go.ChangeShapes Go.WideShapes Go.ChangeAt Go.RowKit
set_option maxRecDepth 100000
set_option linter.unusedVariables false
set_option linter.unusedSimpArgs false

set_option maxHeartbeats 4000000 in
theorem specSpend_no {w : World} {aT aO aP : Option Addr} (cT cO cP : Nat) {T O P : List Q4} (leaf now n : Int) (hT : Quad w.heap.size w aT T) (hO : Quad w.heap.size w aO O) (hP : Quad w.heap.size w aP P) (h1 : toldB T O P leaf now n = false) :
    Calls Try.prog 14 #[lendV aT T.length cT aO O.length cO aP P.length cP, .int .i64 leaf, .int .i64 now, .int .i64 n] w (NewPost w [] [] [] false) := by
  have KW : Hid (Kept w [(w.heap.size, 0, .slice aT T.length cT), (w.heap.size, 1, .slice aO O.length cO), (w.heap.size, 2, .slice aP P.length cP), (w.heap.size + 1, 0, .slice none 0 0), (w.heap.size + 1, 1, .slice none 0 0), (w.heap.size + 1, 2, .slice none 0 0)] [w.heap.size + 1] ((w.alloc (.cells #[.slice aT T.length cT, .slice aO O.length cO, .slice aP P.length cP] 31)).alloc (.cells #[.slice none 0 0, .slice none 0 0, .slice none 0 0] 31))) :=
    ⟨⟨⟨by simp <;> omega, by go_simp⟩, ⟨by simp <;> omega, by go_simp⟩, ⟨by simp <;> omega, by go_simp⟩, ⟨by simp, by go_simp⟩, ⟨by simp, by go_simp⟩, ⟨by simp, by go_simp⟩, trivial⟩,
     (fun b hb => by simp only [List.mem_cons, List.not_mem_nil, or_false] at hb; subst hb; exact ⟨by simp, fun o => by go_simp⟩), by go_grown⟩
  have nb := KW.out.hb
  have htold := l7Told_is cT cO cP h1 (hT.here nb) (hO.here nb) (hP.here nb)
  go_enter Try.func14, Try.ntmps14
  go_wp2_with (go_at_call 36; refine htold.mono ?_; clear htold; rintro e w2 ⟨rfl, hb2⟩; have K2 : Hid (Kept w [(w.heap.size, 0, .slice aT T.length cT), (w.heap.size, 1, .slice aO O.length cO), (w.heap.size, 2, .slice aP P.length cP), (w.heap.size + 1, 0, .slice none 0 0), (w.heap.size + 1, 1, .slice none 0 0), (w.heap.size + 1, 2, .slice none 0 0)] [w.heap.size + 1] w2) := KW.out.next hb2; have ⟨_, _, _, ⟨_, q3⟩, ⟨_, q4⟩, ⟨_, q5⟩, _⟩ := K2.out.cells; have fr := (K2.out.free _ (List.mem_singleton.2 rfl)).2)
  refine bodyPost_ret (results_two rfl _ _ _ [.slice none 0 0, .slice none 0 0, .slice none 0 0] rfl (set_three (u0 := .slice none 0 0) (u1 := .slice none 0 0) (u2 := .slice none 0 0) _ _ _ q3 q4 q5) Try.underlying31 rfl (by kernel_rfl)) rfl ?_
  exact ⟨_, _, _, _, _, _, _, _, _, rfl, LV.zero _ _, ((K2.out.hb.setCell (by simp) _).setCell (by simp) _).setCell (by simp) _⟩
theorem fl_post {w W : World} {b2 : Nat} {sT sO sP : Value} {gT cT gO cO gP cP : Nat} {T X Y : List Q4} (d : FlSt w W b2 sT sO sP gT cT gO cO gP cP T X Y) {a b c : Value} :
    LV (((W.setCell ⟨w.heap.size + 1, 0, none⟩ a).setCell ⟨w.heap.size + 1, 1, none⟩ b).setCell ⟨w.heap.size + 1, 2, none⟩ c) w.heap.size (.slice (some ⟨gT, 0, none⟩) T.length cT) (.slice (some ⟨gO, 0, none⟩) X.length cO) (.slice (some ⟨gP, 0, none⟩) Y.length cP) T X Y ∧ Below w.heap.size w (((W.setCell ⟨w.heap.size + 1, 0, none⟩ a).setCell ⟨w.heap.size + 1, 1, none⟩ b).setCell ⟨w.heap.size + 1, 2, none⟩ c) := by
  refine ⟨⟨own_qv (row_lowC (row_set (row_set (row_set d.rT (by omega)) (by omega)) (by omega)) (by omega)), own_qv (row_lowC (row_set (row_set (row_set d.rO (by omega)) (by omega)) (by omega)) (by omega)), own_qv (row_lowC (row_set (row_set (row_set d.rP (by omega)) (by omega)) (by omega)) (by omega)), ?_, ?_, ?_⟩, ((d.kept.hb.setCell (by simp) _).setCell (by simp) _).setCell (by simp) _⟩
  · exact fun g h1 h2 => rows_apart d.rT d.rO (by decide) g (room_own h1) (room_own h2)
  · exact fun g h1 h2 => rows_apart d.rT d.rP (by decide) g (room_own h1) (room_own h2)
  · intro g h1 h2
    have e1 : gO = g := Option.some.inj (room_own h1)
    have e2 : gP = g := Option.some.inj (room_own h2)
    exact d.ap (by omega)
set_option maxHeartbeats 8000000 in
theorem specSpend_none {w : World} {aT aO aP : Option Addr} (cT cO cP : Nat) {T O P : List Q4} (leaf now n : Int) (hT : Quad w.heap.size w aT T) (hO : Quad w.heap.size w aO O) (hP : Quad w.heap.size w aP P) (h1 : toldB T O P leaf now n = true) (hwho : whoOf T O P leaf now n = -1) :
    Calls Try.prog 14 #[lendV aT T.length cT aO O.length cO aP P.length cP, .int .i64 leaf, .int .i64 now, .int .i64 n] w (NewPost w T (fills now O) (fills now P) false) := by
  have KW : Hid (Kept w [(w.heap.size, 0, .slice aT T.length cT), (w.heap.size, 1, .slice aO O.length cO), (w.heap.size, 2, .slice aP P.length cP), (w.heap.size + 1, 0, .slice none 0 0), (w.heap.size + 1, 1, .slice none 0 0), (w.heap.size + 1, 2, .slice none 0 0)] [w.heap.size + 1] ((w.alloc (.cells #[.slice aT T.length cT, .slice aO O.length cO, .slice aP P.length cP] 31)).alloc (.cells #[.slice none 0 0, .slice none 0 0, .slice none 0 0] 31))) :=
    ⟨⟨⟨by simp <;> omega, by go_simp⟩, ⟨by simp <;> omega, by go_simp⟩, ⟨by simp <;> omega, by go_simp⟩, ⟨by simp, by go_simp⟩, ⟨by simp, by go_simp⟩, ⟨by simp, by go_simp⟩, trivial⟩,
     (fun b hb => by simp only [List.mem_cons, List.not_mem_nil, or_false] at hb; subst hb; exact ⟨by simp, fun o => by go_simp⟩), by go_grown⟩
  have nb := KW.out.hb
  have zW : ((w.alloc (.cells #[.slice aT T.length cT, .slice aO O.length cO, .slice aP P.length cP] 31)).alloc (.cells #[.slice none 0 0, .slice none 0 0, .slice none 0 0] 31)).heap.size = w.heap.size + 2 := by simp
  have htold := l7Told_is cT cO cP h1 (hT.here nb) (hO.here nb) (hP.here nb)
  have ht := told_of h1
  have hd := ht.lend
  have hw := hd.tree.sound.well
  have h30 := hd.tree.l1
  have h01 := hd.tree.l0
  have lO := hd.lo
  have lP := hd.lp
  have okO : ∀ k (h : k < O.length), bokQ O[k] = true := fun k h => (pair_ok (hd.pair k (by omega) h (by omega))).oka
  have okP : ∀ k (h : k < P.length), bokQ P[k] = true := fun k h => (pair_ok (hd.pair k (by omega) (by omega) h)).okb
  have hnow := ht.isTime
  have hsg := seg_num ht.isSeg
  have l0 := ht.l0
  have l1 := ht.l1
  have hpl : (pathOf T leaf).length ≤ 30 := Nat.le_trans (path_length l1) h30
  have hpi : ∀ j (h : j < (pathOf T leaf).length), 0 ≤ (pathOf T leaf)[j] ∧ (pathOf T leaf)[j] < ((fills now P).length : Int) := fun j h => by
    have := path_mem hw T.length leaf l1 (by omega) _ (List.getElem_mem h)
    rw [fills_length, lP]
    omega
  have hpath := fun (W : World) (hq : Quad W.heap.size W aT T) => specL6Path_any cT leaf hq hw h30 (by omega) l1
  have hfill := fun (W : World) (q1 : Quad W.heap.size W aT T) (q2 : Quad W.heap.size W aO O) (q3 : Quad W.heap.size W aP P) => l7Fill_any cT cO cP now q1 q2 q3 ⟨h01, h30⟩ lO lP hnow okO okP
  have hle : (fills now O).length = (fills now P).length := by rw [fills_length, fills_length, lO, lP]
  have hlp30 : (fills now P).length ≤ 30 := by rw [fills_length, lP]; exact h30
  have hask : ∀ (W : World) (gT dT gO dO gP dP cL : Nat) (aL : Option Addr), Quad W.heap.size W (some ⟨gO, 0, none⟩) (fills now O) → Quad W.heap.size W (some ⟨gP, 0, none⟩) (fills now P) → ISmp W.heap.size W aL (pathOf T leaf) →
      Calls Try.prog 38 #[lendV (some ⟨gT, 0, none⟩) T.length dT (some ⟨gO, 0, none⟩) (fills now O).length dO (some ⟨gP, 0, none⟩) (fills now P).length dP, .slice aL (pathOf T leaf).length cL, .int .i64 n] W fun e w' => e = .returned (.int .i64 (-1)) ∧ Below W.heap.size W w' := by
    intro W gT dT gO dO gP dP cL aL q2 q3 iL
    have h := l7Ask_any (aT := some ⟨gT, 0, none⟩) T.length dT dO dP cL q2 q3 iL hle hlp30 hpi hpl hsg
    have e : askOf (fills now O) (fills now P) n (pathOf T leaf) = -1 := hwho
    rw [e] at h
    exact h
  clear ht hd hle hlp30 hpi lO lP okO okP hw hwho
  obtain ⟨FO, hFO⟩ : ∃ X, fills now O = X := ⟨_, rfl⟩
  obtain ⟨FP, hFP⟩ : ∃ X, fills now P = X := ⟨_, rfl⟩
  rw [hFO, hFP] at hfill hask
  rw [hFO, hFP]
  clear hFO hFP
  obtain ⟨L, hL⟩ : ∃ L, pathOf T leaf = L := ⟨_, rfl⟩
  rw [hL] at hpath hask hpl
  clear hL
  go_enter Try.func14, Try.ntmps14
  go_upto_region 3 with (go_at_call 36; refine htold.mono ?_; clear htold; rintro e w2 ⟨rfl, hb2⟩; have K2 : Hid (Kept w [(w.heap.size, 0, .slice aT T.length cT), (w.heap.size, 1, .slice aO O.length cO), (w.heap.size, 2, .slice aP P.length cP), (w.heap.size + 1, 0, .slice none 0 0), (w.heap.size + 1, 1, .slice none 0 0), (w.heap.size + 1, 2, .slice none 0 0)] [w.heap.size + 1] w2) := KW.out.next hb2; have ⟨⟨_, q0⟩, ⟨_, q1⟩, ⟨_, q2⟩, ⟨_, q3⟩, ⟨_, q4⟩, ⟨_, q5⟩, _⟩ := K2.out.cells)
  have hbw2 := K2.out.hb
  have zs2 := hb2.size
  rw [zW] at zs2
  go_upto_region 4 with (go_at_call 39; refine (hfill _ (hT.here hbw2) (hO.here hbw2) (hP.here hbw2)).mono ?_; rintro e w4 ⟨gT, dT, gO, dO, gP, dP, rfl, r1, r2, r3, hap, hb4⟩)
  have D : Hid (FlSt w (w4.alloc (.cells #[.slice (some ⟨gT, 0, none⟩) T.length dT, .slice (some ⟨gO, 0, none⟩) FO.length dO, .slice (some ⟨gP, 0, none⟩) FP.length dP] 31)) w4.heap.size (.slice aT T.length cT) (.slice aO O.length cO) (.slice aP P.length cP) gT dT gO dO gP dP T FO FP) := by
    have K5 := (K2.out.next hb4).next (new_below w4 (.cells #[.slice (some ⟨gT, 0, none⟩) T.length dT, .slice (some ⟨gO, 0, none⟩) FO.length dO, .slice (some ⟨gP, 0, none⟩) FP.length dP] 31))
    obtain ⟨⟨e0, e1, e2, e3, e4, e5, _⟩, hf, hbb⟩ := K5
    have hs := hb4.size
    exact ⟨⟨⟨e0, e1, e2, e3, e4, e5, ⟨by simp, by go_simp⟩, ⟨by simp, by go_simp⟩, ⟨by simp, by go_simp⟩, trivial⟩, hf, hbb⟩, (row_lowC r1 zs2).alloc _, (row_lowC r2 zs2).alloc _, (row_lowC r3 zs2).alloc _, hap, by omega, (r2.lt gO rfl).2, (r3.lt gP rfl).2, (r1.lt gT rfl).2⟩
  clear r1 r2 r3 K2 q0 q1 q2 q3 q4 q5 hb4
  obtain ⟨v0, hv0⟩ : ∃ v, w4.alloc (.cells #[.slice (some ⟨gT, 0, none⟩) T.length dT, .slice (some ⟨gO, 0, none⟩) FO.length dO, .slice (some ⟨gP, 0, none⟩) FP.length dP] 31) = v := ⟨_, rfl⟩
  rw [hv0] at D ⊢
  obtain ⟨b2, hbb2⟩ : ∃ b, w4.heap.size = b := ⟨_, rfl⟩
  rw [hbb2] at D ⊢
  clear hv0 hbb2
  have ⟨⟨_, q0⟩, ⟨_, q1⟩, ⟨_, q2⟩, ⟨_, q3⟩, ⟨_, q4⟩, ⟨_, q5⟩, ⟨_, q6⟩, ⟨_, q7⟩, ⟨_, q8⟩, _⟩ := D.out.kept.cells
  have hbw5 := D.out.kept.hb
  go_upto_region 5 with (go_at_call 37; refine (hpath _ (hT.here hbw5)).mono ?_; rintro e w5 ⟨aL, nL, cL, rfl, ivL, hb5⟩)
  obtain ⟨aL', cL', eL, isL⟩ := ivL.smp
  injection eL with eL1 eL2 eL3
  subst eL1 eL2
  clear eL3
  have D5 : Hid (FlSt w w5 b2 (.slice aT T.length cT) (.slice aO O.length cO) (.slice aP P.length cP) gT dT gO dO gP dP T FO FP) := D.out.next hb5
  clear D q0 q1 q2 q3 q4 q5 q6 q7 q8
  have ⟨⟨_, q0⟩, ⟨_, q1⟩, ⟨_, q2⟩, ⟨_, q3⟩, ⟨_, q4⟩, ⟨_, q5⟩, ⟨_, q6⟩, ⟨_, q7⟩, ⟨_, q8⟩, _⟩ := D5.out.kept.cells
  have ha := hask w5 gT dT gO dO gP dP cL aL (own_quadC D5.out.rO) (own_quadC D5.out.rP) isL
  go_upto_region 6 with (go_at_call 38; refine ha.mono ?_; clear ha; rintro e w6 ⟨rfl, hb6⟩)
  have D6 : Hid (FlSt w w6 b2 (.slice aT T.length cT) (.slice aO O.length cO) (.slice aP P.length cP) gT dT gO dO gP dP T FO FP) := D5.out.next hb6
  clear D5 q0 q1 q2 q3 q4 q5 q6 q7 q8
  have ⟨⟨_, q0⟩, ⟨_, q1⟩, ⟨_, q2⟩, ⟨_, q3⟩, ⟨_, q4⟩, ⟨_, q5⟩, ⟨_, q6⟩, ⟨_, q7⟩, ⟨_, q8⟩, _⟩ := D6.out.kept.cells
  have fr := (D6.out.kept.free (w.heap.size + 1) (List.mem_singleton.2 rfl)).2
  have n1 : w.heap.size + 1 ≠ b2 := by have := D6.out.lo; omega
  go_wp2
  refine bodyPost_ret (results_two rfl _ _ _ [.slice (some ⟨gT, 0, none⟩) T.length dT, .slice (some ⟨gO, 0, none⟩) FO.length dO, .slice (some ⟨gP, 0, none⟩) FP.length dP] rfl (set_three (u0 := .slice none 0 0) (u1 := .slice none 0 0) (u2 := .slice none 0 0) _ _ _ q3 q4 q5) Try.underlying31 rfl (by kernel_rfl)) rfl ?_
  have hfin := fl_post D6.out (a := .slice (some ⟨gT, 0, none⟩) T.length dT) (b := .slice (some ⟨gO, 0, none⟩) FO.length dO) (c := .slice (some ⟨gP, 0, none⟩) FP.length dP)
  exact ⟨_, _, _, _, _, _, _, _, _, rfl, hfin.1, hfin.2⟩
end Go.Proofs.Ytcepopboldnicam

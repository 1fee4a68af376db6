/- The draw of a Lend: what it holds while it is made. -/
import Derived.Test.YtmophpbfaonfmacGrpQ
import Derived.Test.YtmophpbfaonfmacDraws1
import Derived.Test.YtmophpbfaonfmacSpendBoth
namespace Go.Proofs.Ytmophpbfaonfmac
open Go.ChangeShapes Go.WideShapes Go.ChangeAt Go.RowKit
set_option maxRecDepth 100000
set_option linter.unusedVariables false
set_option linter.unusedSimpArgs false

theorem Only.onlyP {b : Nat} {w w' : World} (h : Only b w w') : OnlyP (fun k => k = b) w w' := ⟨h.os, h.tape, h.output, h.size, h.block⟩
theorem LV.only {w w' : World} {lo b : Nat} {s1 s2 s3 : Value} {T O P : List Q4} (h : LV w lo s1 s2 s3 T O P) (o : Only b w w') (hb : b < lo) : LV w' lo s1 s2 s3 T O P :=
  h.onlyP o.onlyP (fun g hg e => by have := (h.t.own hg).1; omega) (fun g hg e => by have := (h.o.own hg).1; omega) (fun g hg e => by have := (h.p.own hg).1; omega)
/-- The lengths of a Lend that a draw holds. -/
def Ln (T O P : List Q4) : Prop := 1 ≤ T.length ∧ T.length ≤ 30 ∧ O.length = T.length ∧ P.length = T.length
/-- While a Lend is drawn: the cursor at b; of old blocks b alone has turned; the Lend lies in a variable bl, its lists are rows of their own. -/
structure DL (B : Nat) (a0 : Option Addr) (len cap b : Nat) (w wr : World) (bl : Nat) (s1 s2 s3 : Value) (T O P : List Q4) : Prop where
  cur : Cur B a0 len cap b wr
  only : Only b w wr
  lt : b < w.heap.size
  bl0 : w.heap.size ≤ bl
  bl1 : bl < wr.heap.size
  c0 : wr.cell? ⟨bl, 0, none⟩ = some s1
  c1 : wr.cell? ⟨bl, 1, none⟩ = some s2
  c2 : wr.cell? ⟨bl, 2, none⟩ = some s3
  fr : ∀ i, wr.frozen? ⟨bl, i, none⟩ = false
  lv : LV wr w.heap.size s1 s2 s3 T O P
  ap : ¬ inL s1 s2 s3 bl
section
variable {B : Nat} {a0 : Option Addr} {len cap b : Nat} {w wr : World} {bl : Nat} {s1 s2 s3 : Value} {T O P : List Q4}
theorem DL.draw (d : DL B a0 len cap b w wr bl s1 s2 s3 T O P) {w2 : World} (o : Only b wr w2) (k : Cur B a0 len cap b w2) : DL B a0 len cap b w w2 bl s1 s2 s3 T O P := by
  have h0 := d.lt
  have h1 := d.bl0
  have hn : bl ≠ b := by omega
  exact ⟨k, d.only.trans o, d.lt, d.bl0, Nat.lt_of_lt_of_le d.bl1 o.size, (o.cell (p := ⟨bl, 0, none⟩) d.bl1 hn).trans d.c0, (o.cell (p := ⟨bl, 1, none⟩) d.bl1 hn).trans d.c1, (o.cell (p := ⟨bl, 2, none⟩) d.bl1 hn).trans d.c2, fun i => (o.frozen (p := ⟨bl, i, none⟩) d.bl1 hn).trans (d.fr i), d.lv.only o d.lt, d.ap⟩
theorem DL.next (d : DL B a0 len cap b w wr bl s1 s2 s3 T O P) {w2 : World} (h : Below wr.heap.size wr w2) : DL B a0 len cap b w w2 bl s1 s2 s3 T O P := d.draw (Only.of_below h) (d.cur.mono h)
/-- A Lend that was made is laid into a new variable. -/
theorem DL.new (k : Cur B a0 len cap b wr) (o : Only b w wr) (hb : b < w.heap.size) (lv : LV wr w.heap.size s1 s2 s3 T O P) : DL B a0 len cap b w (wr.alloc (.cells #[s1, s2, s3] 64)) wr.heap.size s1 s2 s3 T O P := by
  have nb : Below wr.heap.size wr (wr.alloc (.cells #[s1, s2, s3] 64)) := new_below _ _
  refine ⟨k.mono nb, o.alloc _, hb, o.size, by simp, by go_simp, by go_simp, by go_simp, fun i => by go_simp, lv.next nb, fun h => ?_⟩
  have := (lv.lo h).2
  omega
theorem set3_below {w : World} {V bl : Nat} (hb : V ≤ bl) (hV : V ≤ w.heap.size) (v1 v2 v3 : Value) : Below V w (((w.setCell ⟨bl, 0, none⟩ v1).setCell ⟨bl, 1, none⟩ v2).setCell ⟨bl, 2, none⟩ v3) :=
  ((((Below.refl _ _).setCell (by simp only; omega) _).setCell (by simp only; omega) _).setCell (by simp only; omega) _)
theorem cells3 {w : World} {bl : Nat} {u0 u1 u2 : Value} (h0 : w.cell? ⟨bl, 0, none⟩ = some u0) (h1 : w.cell? ⟨bl, 1, none⟩ = some u1) (h2 : w.cell? ⟨bl, 2, none⟩ = some u2) (v1 v2 v3 : Value) :
    (((w.setCell ⟨bl, 0, none⟩ v1).setCell ⟨bl, 1, none⟩ v2).setCell ⟨bl, 2, none⟩ v3).cell? ⟨bl, 0, none⟩ = some v1 ∧ (((w.setCell ⟨bl, 0, none⟩ v1).setCell ⟨bl, 1, none⟩ v2).setCell ⟨bl, 2, none⟩ v3).cell? ⟨bl, 1, none⟩ = some v2 ∧ (((w.setCell ⟨bl, 0, none⟩ v1).setCell ⟨bl, 1, none⟩ v2).setCell ⟨bl, 2, none⟩ v3).cell? ⟨bl, 2, none⟩ = some v3 := by
  have e1 : (w.setCell ⟨bl, 0, none⟩ v1).cell? ⟨bl, 1, none⟩ = some u1 := (set_other (by decide)).trans h1
  have e2 : ((w.setCell ⟨bl, 0, none⟩ v1).setCell ⟨bl, 1, none⟩ v2).cell? ⟨bl, 2, none⟩ = some u2 := (set_other (by decide)).trans ((set_other (by decide)).trans h2)
  exact ⟨(set_other (by decide)).trans ((set_other (by decide)).trans (World.cell?_setCell_same' _ _ _ (by rw [h0]; rfl))), (set_other (by decide)).trans (World.cell?_setCell_same' _ _ _ (by rw [e1]; rfl)), World.cell?_setCell_same' _ _ _ (by rw [e2]; rfl)⟩
/-- Another Lend is stored over it. -/
theorem DL.over (d : DL B a0 len cap b w wr bl s1 s2 s3 T O P) {w2 : World} {lo : Nat} {v1 v2 v3 : Value} {T' O' P' : List Q4} (hb : Below wr.heap.size wr w2) (hl : bl < lo) (lv : LV w2 lo v1 v2 v3 T' O' P') :
    DL B a0 len cap b w (((w2.setCell ⟨bl, 0, none⟩ v1).setCell ⟨bl, 1, none⟩ v2).setCell ⟨bl, 2, none⟩ v3) bl v1 v2 v3 T' O' P' := by
  have d2 := d.next hb
  have hs := d2.only.size
  have h0 := d.bl0
  have hB : Below w.heap.size w2 (((w2.setCell ⟨bl, 0, none⟩ v1).setCell ⟨bl, 1, none⟩ v2).setCell ⟨bl, 2, none⟩ v3) := set3_below d.bl0 hs _ _ _
  obtain ⟨e0, e1, e2⟩ := cells3 d2.c0 d2.c1 d2.c2 v1 v2 v3
  refine ⟨d2.cur.under hB d.lt, only_low d2.only hB, d.lt, d.bl0, by simpa using d2.bl1, e0, e1, e2, fun i => ?_, (((lv.set hl _ _).set hl _ _).set hl _ _).lower (by omega), fun h => ?_⟩
  · simp only [World.frozen?_setCell]
    exact d2.fr i
  · have := (lv.lo h).1
    omega
end
/-! Lists of fours of which one number is stored over -/
theorem qfill_some {w : World} {g : Nat} : ∀ (n m : Nat), m ≤ n → (∀ j, j < n * 4 → (∃ z : Int, w.cell? ⟨g, j, none⟩ = some (.int .i64 z)) ∧ w.frozen? ⟨g, j, none⟩ = false) → ∃ ys : List Q4, ys.length = m ∧ QFill w g n ys m
  | n, 0, _, h => ⟨[], rfl, ⟨h, fun i hi => by simp at hi⟩⟩
  | n, m + 1, hm, h => by
    obtain ⟨ys, hy, f⟩ := qfill_some n m (by omega) h
    obtain ⟨z0, e0⟩ := (h (m * 4) (by omega)).1
    obtain ⟨z1, e1⟩ := (h (m * 4 + 1) (by omega)).1
    obtain ⟨z2, e2⟩ := (h (m * 4 + 2) (by omega)).1
    obtain ⟨z3, e3⟩ := (h (m * 4 + 3) (by omega)).1
    refine ⟨ys ++ [(z0, z1, z2, z3)], by simp [hy], ⟨h, fun i hi hk => ?_⟩⟩
    by_cases hl : i < m
    · have hl' : i < ys.length := by omega
      rw [List.getElem_append_left hl']
      exact f.got i hl' hl
    · have ei : i = ys.length := by omega
      subst ei
      rw [List.getElem_append_right (Nat.le_refl _)]
      simp only [Nat.sub_self, List.getElem_cons_zero, hy]
      exact ⟨e0, e1, e2, e3⟩
theorem qfill_put {w : World} {g n j : Nat} {xs : List Q4} (f : QFill w g n xs n) (hx : xs.length = n) (z : Int) : ∃ ys : List Q4, ys.length = n ∧ QFill (w.setCell ⟨g, j, none⟩ (.int .i64 z)) g n ys n := by
  refine qfill_some n n (Nat.le_refl _) (fun i hi => ?_)
  obtain ⟨⟨y, hy⟩, hf⟩ := f.any i hi
  refine ⟨?_, by simpa only [World.frozen?_setCell] using hf⟩
  by_cases e : j = i
  · subst e
    exact ⟨z, World.cell?_setCell_same' _ _ _ (by rw [hy]; rfl)⟩
  · exact ⟨y, (set_other e).trans hy⟩
/-! Numbers -/
theorem leaf_last {T : List Q4} (h : IsTree T) : 1 ≤ (leavesTo T T.length).length := by
  have h0 := h.l0
  obtain ⟨n, hn⟩ : ∃ n, T.length = n + 1 := ⟨T.length - 1, by omega⟩
  have hl : leafB T (n : Int) = true := by
    unfold leafB
    rw [List.all_eq_true]
    intro t ht
    obtain ⟨k, hk, rfl⟩ := List.getElem_of_mem ht
    have := par_num (h.sound.par k hk)
    simp only [Bool.not_eq_true', decide_eq_false_iff_not]
    omega
  rw [hn, leaves_yes hl]
  simp
theorem leaves_some {T : List Q4} (h : treeCode T = 0) : 1 ≤ (leavesOf T).length := by
  unfold leavesOf
  rw [if_pos h]
  exact leaf_last (tree_of h)
theorem new_ln {T : List Q4} {at' : Int} (h : newB T at' = true) : treeCode (newT T at') = 0 ∧ Ln (newT T at') (newO T at') (newP T at') := by
  have hc : treeCode T = 0 := by unfold newB at h; rw [Bool.and_eq_true] at h; exact of_decide_eq_true h.1
  unfold newT newO newP Ln
  rw [if_pos h, if_pos h, if_pos h]
  have ht := tree_of hc
  exact ⟨hc, ht.l0, ht.l1, by simp, by simp⟩
theorem new_no {T : List Q4} {at' : Int} (h : newB T at' = false) : newT T at' = [] ∧ newO T at' = [] ∧ newP T at' = [] := by
  unfold newT newO newP
  rw [h]
  exact ⟨rfl, rfl, rfl⟩
theorem spend_ln (T O P : List Q4) (leaf now n : Int) (h : 0 < (spendT T O P leaf now n).length) : Ln (spendT T O P leaf now n) (spendO T O P leaf now n) (spendP T O P leaf now n) := by
  cases ht : toldB T O P leaf now n
  · unfold spendT at h
    rw [ht] at h
    simp at h
  · have hd := (told_of ht).lend
    have h30 := hd.tree.l1
    have h0 := hd.tree.l0
    have lO := hd.lo
    have lP := hd.lp
    unfold spendT spendO spendP Ln
    simp only [ht, if_true]
    refine ⟨h0, h30, ?_, ?_⟩
    · split
      · rw [fills_length]; omega
      · rw [ownTo_length, fills_length]; omega
    · split
      · rw [fills_length]; omega
      · rw [topTo_length, fills_length]; omega
theorem new_one : newB [(-1, 5000, 5000, 1500)] 0 = true := by decide
end Go.Proofs.Ytmophpbfaonfmac

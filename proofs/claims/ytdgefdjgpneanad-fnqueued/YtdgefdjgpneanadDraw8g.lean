/- A draw's Turns whose first list is made anew, number by number. -/
import Derived.Test.YtdgefdjgpneanadDraw8e
namespace Go.Proofs.Ytdgefdjgpneanad
open Go.ChangeShapes Go.WideShapes Go.ChangeAt Go.RowKit
set_option maxRecDepth 100000
set_option linter.unusedVariables false
set_option linter.unusedSimpArgs false

/-- Turns in a variable bT, its flows owned somewhere behind lo. -/
structure W8 (B : Nat) (a0 : Option Addr) (len cap b : Nat) (w wr : World) (lo bT : Nat) (ad : Option Addr) (n c : Nat) (a : Int) (f : Bool) : Prop where
  cur : Cur B a0 len cap b wr
  hb : Below w.heap.size w wr
  r0 : wr.cell? ⟨w.heap.size, 0, none⟩ = some (.slice none 0 0)
  r1 : wr.cell? ⟨w.heap.size, 1, none⟩ = some (.int .i64 0)
  r2 : wr.cell? ⟨w.heap.size, 2, none⟩ = some (.bool false)
  rf : ∀ o : Nat, wr.frozen? ⟨w.heap.size, o, none⟩ = false
  t0 : wr.cell? ⟨bT, 0, none⟩ = some (.slice ad n c)
  t1 : wr.cell? ⟨bT, 1, none⟩ = some (.int .i64 a)
  t2 : wr.cell? ⟨bT, 2, none⟩ = some (.bool f)
  tf : ∀ o : Nat, wr.frozen? ⟨bT, o, none⟩ = false
  z0 : w.heap.size < b
  z1 : b < lo
  z2 : lo ≤ bT
  z3 : bT < wr.heap.size
def O8 (wr : World) (lo : Nat) (ad : Option Addr) (n c : Nat) (fs : List F8) : Prop :=
  (fs = [] ∨ ∃ g vs, ad = some ⟨g, 0, none⟩ ∧ fs.length ≤ c ∧ FO wr lo wr.heap.size g fs.length vs fs) ∧ fs.length = n ∧ fs.length ≤ 4 ∧ (∀ x ∈ fs, x.2.2.length ≤ 101)
section
variable {B : Nat} {a0 : Option Addr} {len cap b : Nat} {w wr w2 : World} {lo bT : Nat} {ad : Option Addr} {n c : Nat} {fs : List F8} {a : Int} {f : Bool}
/-- Only what lies elsewhere has turned. -/
theorem W8.keep (h : W8 B a0 len cap b w wr lo bT ad n c a f) (hz : wr.heap.size ≤ w2.heap.size) (k : Cur B a0 len cap b w2) (hb : Below w.heap.size w w2) (h0 : w2.heap[w.heap.size]? = wr.heap[w.heap.size]?) (h1 : w2.heap[bT]? = wr.heap[bT]?) : W8 B a0 len cap b w w2 lo bT ad n c a f := by
  have hc : ∀ o : Nat, w2.cell? ⟨w.heap.size, o, none⟩ = wr.cell? ⟨w.heap.size, o, none⟩ := fun o => World.cell?_of_block (a := ⟨w.heap.size, o, none⟩) h0
  have hf : ∀ o : Nat, w2.frozen? ⟨w.heap.size, o, none⟩ = wr.frozen? ⟨w.heap.size, o, none⟩ := fun o => World.frozen?_of_block (a := ⟨w.heap.size, o, none⟩) h0
  have dc : ∀ o : Nat, w2.cell? ⟨bT, o, none⟩ = wr.cell? ⟨bT, o, none⟩ := fun o => World.cell?_of_block (a := ⟨bT, o, none⟩) h1
  have df : ∀ o : Nat, w2.frozen? ⟨bT, o, none⟩ = wr.frozen? ⟨bT, o, none⟩ := fun o => World.frozen?_of_block (a := ⟨bT, o, none⟩) h1
  exact ⟨k, hb, (hc 0).trans h.r0, (hc 1).trans h.r1, (hc 2).trans h.r2, fun o => (hf o).trans (h.rf o), (dc 0).trans h.t0, (dc 1).trans h.t1, (dc 2).trans h.t2, fun o => (df o).trans (h.tf o), h.z0, h.z1, h.z2, Nat.lt_of_lt_of_le h.z3 hz⟩
theorem W8.draw (h : W8 B a0 len cap b w wr lo bT ad n c a f) (o : Only b wr w2) (k : Cur B a0 len cap b w2) : W8 B a0 len cap b w w2 lo bT ad n c a f := by
  have h0 := h.z0
  have h1 := h.z1
  have h2 := h.z2
  have h3 := h.z3
  exact h.keep o.size k (h.hb.trans (o.below (by omega) (by omega))) (o.block _ (by omega) (by omega)) (o.block _ h3 (by omega))
theorem W8.next (h : W8 B a0 len cap b w wr lo bT ad n c a f) (hb : Below wr.heap.size wr w2) : W8 B a0 len cap b w w2 lo bT ad n c a f := h.draw (Only.of_below hb) (h.cur.mono hb)
theorem O8.draw (h : O8 wr lo ad n c fs) (o : Only b wr w2) (hb : b < lo) : O8 w2 lo ad n c fs := by
  refine ⟨?_, h.2.1, h.2.2.1, h.2.2.2⟩
  rcases h.1 with e | ⟨g, vs, e, hcp, fo⟩
  · exact .inl e
  · exact .inr ⟨g, vs, e, hcp, (fo.same o.size (fun y h1 h2 => o.block y h2 (by omega))).wider (Nat.le_refl _) o.size (Nat.le_refl _)⟩
theorem R8.toW (h : R8 B a0 len cap b w wr lo bT ad c fs a f) : W8 B a0 len cap b w wr lo bT ad fs.length c a f := ⟨h.cur, h.hb, h.r0, h.r1, h.r2, h.rf, h.t0, h.t1, h.t2, h.tf, h.z0, h.z1, h.z2, h.z3⟩
theorem R8.toO (h : R8 B a0 len cap b w wr lo bT ad c fs a f) : O8 wr lo ad fs.length c fs := by
  have h3 := h.z3
  refine ⟨?_, rfl, h.l4, h.le⟩
  rcases h.own with e | ⟨g, vs, e, hcp, fo⟩
  · exact .inl e
  · exact .inr ⟨g, vs, e, hcp, fo.wider (Nat.le_refl _) (by omega) (Nat.le_refl _)⟩
/-- The answer is stored. -/
theorem W8.out (h : W8 B a0 len cap b w wr lo bT ad n c a f) (o : O8 wr lo ad n c fs) (x y z : Value) :
    T8In w (((wr.setCell ⟨w.heap.size, 0, none⟩ x).setCell ⟨w.heap.size, 1, none⟩ y).setCell ⟨w.heap.size, 2, none⟩ z) ad c fs := by
  have h0 := h.z0
  have h1 := h.z1
  have hI : OnlyI w.heap.size (w.heap.size + 1) wr (((wr.setCell ⟨w.heap.size, 0, none⟩ x).setCell ⟨w.heap.size, 1, none⟩ y).setCell ⟨w.heap.size, 2, none⟩ z) :=
    (((OnlyI.refl _ _ _).setCell (by omega) (by omega) _).setCell (by omega) (by omega) _).setCell (by omega) (by omega) _
  have hBl : Below w.heap.size wr _ := hI.below (Nat.le_refl _) h.hb.size
  refine ⟨?_, o.2.2.1, o.2.2.2, h.hb.trans hBl⟩
  rcases o.1 with e | ⟨g, vs, e, hc, fo⟩
  · exact .inl e
  · exact .inr ⟨g, vs, e, hc, (fo.same hI.size (fun k h1 h2 => hI.block k h2 (.inr (by omega)))).wider (by omega) hI.size (Nat.le_refl _)⟩
end
/-- The first list is another one, a row of its own. -/
theorem fo_put {u u' : World} {lo hi g n mk : Nat} {vs : List Value} {fs : List F8} {v' : Value} {xs : List Int} (fo : FO u lo hi g n vs fs) (hi0 : 0 < fs.length) (hv : 0 < vs.length) (hz : u.heap.size ≤ u'.heap.size)
    (hg : u'.heap[g]? = u.heap[g]?) (hsame : ∀ j (hj : j < vs.length) y, j ≠ 0 → elB vs[j] = some y → u'.heap[y]? = u.heap[y]?)
    (own : u'.ownsRow mk 2 1 v' xs.length (flatI xs)) (hmk : lo ≤ mk) (hsep : ∀ y, v'.ownBlock = some y → y ≠ g ∧ ∀ j (hj : j < vs.length), j ≠ 0 → elB vs[j] ≠ some y) :
    FO (u'.setCell ⟨g, 2, none⟩ v') lo u'.heap.size g n (vs.set 0 v') (fs.set 0 (fs[0].1, fs[0].2.1, xs)) := by
  have g1 := fo.g1
  have tp := fo.top
  have hcell : ∀ j, u'.cell? ⟨g, j, none⟩ = u.cell? ⟨g, j, none⟩ := fun j => World.cell?_of_block (a := ⟨g, j, none⟩) hg
  have hfro : ∀ j, u'.frozen? ⟨g, j, none⟩ = u.frozen? ⟨g, j, none⟩ := fun j => World.frozen?_of_block (a := ⟨g, j, none⟩) hg
  obtain ⟨c0, c1, c2⟩ := fo.got 0 hi0 hv
  have hsetb : ∀ b, b ≠ g → (u'.setCell ⟨g, 2, none⟩ v').heap[b]? = u'.heap[b]? := fun b hn => Below.heap_setCell _ _ _ _ (by exact hn)
  have io : IO u' lo u'.heap.size v' xs := ((own_ints own).io).wider hmk (Nat.le_refl _)
  refine fo.swap hi0 hv (by omega) (by simp) (by simp; omega) (fun j hj y hne e => ?_) (fun j hj => (set_other (by omega)).trans (hcell j)) (fun j => ?_) ((set_other (by decide)).trans ((hcell _).trans c0)) ((set_other (by decide)).trans ((hcell _).trans c1)) (set_same _ ((hcell _).trans c2)) (io.same (by simp) (fun y e => hsetb y (hsep y (el_own own e)).1)) (fun y e => hsep y (el_own own e))
  · rw [hsetb y (fun e' => fo.far j hj (by rw [e, e']))]
    exact hsame j hj y hne e
  · rw [World.frozen?_setCell]
    exact hfro j
/-- The flows while the first list grows. -/
structure Q8 (wr : World) (lo bT mk g n c : Nat) (vs : List Value) (fs : List F8) (v : Value) (xs : List Int) : Prop where
  g1 : g < bT
  m1 : bT < mk
  m2 : mk ≤ wr.heap.size
  fo : FO wr lo wr.heap.size g n vs fs
  hn : fs.length = n
  h0 : 0 < fs.length
  h4 : fs.length ≤ 4
  cp : n ≤ c
  v0 : vs[0]? = some v
  f0 : ∃ q d, fs[0]? = some (q, d, xs)
  row : wr.ownsRow mk 2 1 v xs.length (flatI xs)
  far : ∀ j (h : j < vs.length), j ≠ 0 → ∀ y, elB vs[j] = some y → y < mk
  le : ∀ x ∈ fs, x.2.2.length ≤ 101
section
variable {B : Nat} {a0 : Option Addr} {len cap b : Nat} {w wr w2 : World} {lo bT mk g n c : Nat} {vs : List Value} {fs : List F8} {v : Value} {xs : List Int}
theorem Q8.draw (h : Q8 wr lo bT mk g n c vs fs v xs) (o : Only b wr w2) (hb : b < lo) : Q8 w2 lo bT mk g n c vs fs v xs := by
  have g0 := h.fo.g0
  have g1 := h.g1
  have m1 := h.m1
  exact ⟨h.g1, h.m1, Nat.le_trans h.m2 o.size, (h.fo.same o.size (fun y h1 h2 => o.block y h2 (by omega))).wider (Nat.le_refl _) o.size (Nat.le_refl _), h.hn, h.h0, h.h4, h.cp, h.v0, h.f0, row_onlyX h.row o (fun e => by have := (h.row.lt b e).1; omega), h.far, h.le⟩
theorem Q8.toO (h : Q8 wr lo bT mk g n c vs fs v xs) : O8 wr lo (some ⟨g, 0, none⟩) n c fs := ⟨.inr ⟨g, vs, rfl, by have := h.cp; have := h.hn; omega, by have := h.fo; rw [h.hn]; exact this⟩, h.hn, h.h4, h.le⟩
theorem Q8.c2 (h : Q8 wr lo bT mk g n c vs fs v xs) : wr.cell? ⟨g, 2, none⟩ = some v := by
  have hv := h.fo.len
  have h0 := h.h0
  have e := h.v0
  rw [List.getElem?_eq_getElem (show 0 < vs.length by omega)] at e
  have c := (h.fo.got 0 h0 (by omega)).2.2
  rw [Option.some.inj e] at c
  exact c
theorem Q8.f2 (h : Q8 wr lo bT mk g n c vs fs v xs) : wr.frozen? ⟨g, 2, none⟩ = false := (h.fo.any 2 (by have := h.h0; have := h.hn; omega)).2
theorem W8.app {W w6 : World} {ad : Option Addr} {a : Int} {f : Bool} {v' : Value} (h : W8 B a0 len cap b w wr lo bT ad n c a f) (q : Q8 wr lo bT mk g n c vs fs v xs) (hW : Below wr.heap.size wr W) (gr : W.grownBy w6 v.ownBlock) : W8 B a0 len cap b w (w6.setCell ⟨g, 2, none⟩ v') lo bT ad n c a f := by
  have hzW := hW.size
  have hz6 := gr.size
  have g0 := q.fo.g0
  have g1 := q.g1
  have m1 := q.m1
  have z0 := h.z0
  have z1 := h.z1
  have z2 := h.z2
  have z3 := h.z3
  have same : ∀ y, y < wr.heap.size → y < mk → y ≠ g → (w6.setCell ⟨g, 2, none⟩ v').heap[y]? = wr.heap[y]? := fun y h1 h2 h3 => (Below.heap_setCell _ _ _ _ (by exact h3)).trans ((gr.block y (by omega) (fun e => by have := (q.row.lt y e.symm).1; omega)).trans (hW.block y h1))
  have hlo : Below lo wr (w6.setCell ⟨g, 2, none⟩ v') := ⟨gr.os.trans hW.os, gr.tape.trans hW.tape, gr.output.trans hW.output, by simp; omega, fun y hy => same y (by omega) (by omega) (by omega)⟩
  exact h.keep hlo.size (h.cur.under hlo z1) (h.hb.trans (hlo.mono (by omega))) (same _ (by omega) (by omega) (by omega)) (same _ z3 (by omega) (by omega))
/-- One number more, and the list stored again. -/
theorem Q8.app {W w6 : World} {v' : Value} {x : Int} (h : Q8 wr lo bT mk g n c vs fs v xs) (hl : xs.length ≤ 100) (hW : Below wr.heap.size wr W) (own6 : w6.ownsRow mk 2 1 v' (xs.length + 1) (flatI xs ++ [.int .i64 x])) (gr : W.grownBy w6 v.ownBlock) (two : v'.ownBlock = v.ownBlock ∨ v'.ownBlock = some W.heap.size) :
    ∃ vs' fs', Q8 (w6.setCell ⟨g, 2, none⟩ v') lo bT mk g n c vs' fs' v' (xs ++ [x]) := by
  have hzW := hW.size
  have hz6 := gr.size
  have g0 := h.fo.g0
  have g1 := h.g1
  have m1 := h.m1
  have tp := h.fo.top
  have gz := h.fo.g1
  have hvl := h.fo.len
  have h0 := h.h0
  have hv0 : 0 < vs.length := by omega
  obtain ⟨q, d, ef⟩ := h.f0
  have hmk : ∀ y, v.ownBlock = some y → mk ≤ y ∧ y < wr.heap.size := fun y e => h.row.lt y e
  have same : ∀ y, y < wr.heap.size → y < mk → w6.heap[y]? = wr.heap[y]? := fun y h1 h2 => (gr.block y (by omega) (fun e => by have := (hmk y e.symm).1; omega)).trans (hW.block y h1)
  have own6' : w6.ownsRow mk 2 1 v' (xs ++ [x]).length (flatI (xs ++ [x])) := by rw [flatI_snoc, List.length_append]; exact own6
  have hlo : lo ≤ mk := by omega
  have hvb : ∀ y, v'.ownBlock = some y → mk ≤ y := fun y e => (own6.lt y e).1
  have F := fo_put (u' := w6) (v' := v') (xs := xs ++ [x]) h.fo h0 hv0 (by omega) (same g (by omega) (by omega)) (fun j hj y hne e => same y (by have := ((h.fo.own j (by omega) hj).el e).2.2; omega) (h.far j hj hne y e)) own6' hlo (fun y e => ⟨by have := hvb y e; omega, fun j hj hne e' => by have := hvb y e; have := h.far j hj hne y e'; omega⟩)
  refine ⟨_, _, h.g1, h.m1, by have := h.m2; simp; omega, by simpa using F, by rw [List.length_set]; exact h.hn, by rw [List.length_set]; exact h0, by rw [List.length_set]; exact h.h4, h.cp, ?_, ?_, ?_, ?_, ?_⟩
  · rw [List.getElem?_set_self hv0]
  · exact ⟨_, _, by rw [List.getElem?_set_self h0]⟩
  · exact row_onlyX own6' ((Only.refl g w6).setCell (p := ⟨g, 2, none⟩) rfl _) (fun e => by have := hvb g e; omega)
  · intro j hj hne y e
    rw [List.getElem_set, if_neg (fun e' => hne e'.symm)] at e
    exact h.far j (by simpa using hj) hne y e
  · intro y hy
    rcases List.mem_or_eq_of_mem_set hy with hy | rfl
    · exact h.le y hy
    · simp only [List.length_append, List.length_cons, List.length_nil]
      omega
/-- The first list becomes an empty one. -/
theorem Q8.begin (fo : FO wr lo bT g n vs fs) (hT : bT < wr.heap.size) (hn : fs.length = n) (h0 : 0 < fs.length) (h4 : fs.length ≤ 4) (cp : n ≤ c) (le : ∀ x ∈ fs, x.2.2.length ≤ 101) :
    ∃ vs' fs', Q8 ((wr.alloc (.cells #[] 2)).setCell ⟨g, 2, none⟩ (.slice (some ⟨wr.heap.size, 0, none⟩) 0 0)) lo bT wr.heap.size g n c vs' fs' (.slice (some ⟨wr.heap.size, 0, none⟩) 0 0) [] := by
  have g0 := fo.g0
  have g1 := fo.g1
  have hvl := fo.len
  have hv0 : 0 < vs.length := by omega
  have nb := newB wr (.cells #[] 2)
  have hz : (wr.alloc (.cells #[] 2)).heap.size = wr.heap.size + 1 := by simp
  have own : (wr.alloc (.cells #[] 2)).ownsRow wr.heap.size 2 1 (.slice (some ⟨wr.heap.size, 0, none⟩) 0 0) ([] : List Int).length (flatI []) := own_none1 wr wr.heap.size _ rfl (Nat.le_refl _) _
  have F := fo_put (u' := wr.alloc (.cells #[] 2)) (v' := .slice (some ⟨wr.heap.size, 0, none⟩) 0 0) (xs := []) fo h0 hv0 (by omega) (nb.block g (by omega)) (fun j hj y hne e => nb.block y (by have := ((fo.own j (by omega) hj).el e).2.1; omega)) own (by omega) (fun y e => by
    have e : wr.heap.size = y := Option.some.inj e
    subst e
    exact ⟨by omega, fun j hj hne e' => by have := ((fo.own j (by omega) hj).el e').2.1; omega⟩)
  refine ⟨_, _, g1, hT, by simp, by simpa using F, by rw [List.length_set]; exact hn, by rw [List.length_set]; exact h0, by rw [List.length_set]; exact h4, cp, ?_, ?_, ?_, ?_, ?_⟩
  · rw [List.getElem?_set_self hv0]
  · exact ⟨_, _, by rw [List.getElem?_set_self h0]⟩
  · exact row_onlyX own ((Only.refl g (wr.alloc (.cells #[] 2))).setCell (p := ⟨g, 2, none⟩) rfl _) (fun e => by have e : wr.heap.size = g := Option.some.inj e; omega)
  · intro j hj hne y e
    rw [List.getElem_set, if_neg (fun e' => hne e'.symm)] at e
    have := ((fo.own j (by simp at hj; omega) (by simpa using hj)).el e).2.1
    omega
  · intro y hy
    rcases List.mem_or_eq_of_mem_set hy with hy | rfl
    · exact le y hy
    · simp
end
end Go.Proofs.Ytdgefdjgpneanad

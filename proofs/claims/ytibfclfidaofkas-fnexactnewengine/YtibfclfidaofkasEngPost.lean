/- Answers that are Engines. -/
import Derived.Test.YtibfclfidaofkasEngRead
import Derived.Test.YtibfclfidaofkasFlwRow
import Derived.Test.YtibfclfidaofkasGrpW
import Derived.Test.YtibfclfidaofkasGrpC
namespace Go.Proofs.Ytibfclfidaofkas
open Go.ChangeShapes Go.WideShapes Go.ChangeAt Go.RowKit
set_option maxRecDepth 100000
set_option linter.unusedVariables false
set_option linter.unusedSimpArgs false

/-- An Engine of the call's own, and something beside it. -/
def EgPost (w : World) (now nx : Int) (T O P : List Q4) (L : List F8) (K : List Kn) (x : Value) (e : Ending) (w' : World) : Prop := ∃ aT cT aO cO aP cP aL cL aK cK, e = .returned (.tuple #[engV now aT T.length cT aO O.length cO aP P.length cP aL L.length cL aK K.length cK nx, x]) ∧ Eng w' w.heap.size w'.heap.size (.slice aT T.length cT) (.slice aO O.length cO) (.slice aP P.length cP) (.slice aL L.length cL) (.slice aK K.length cK) T O P L K ∧ Below w.heap.size w w'
theorem eng_zero {w : World} {lo hi : Nat} (h1 : lo ≤ hi) (h2 : hi ≤ w.heap.size) : Eng w lo hi (.slice none 0 0) (.slice none 0 0) (.slice none 0 0) (.slice none 0 0) (.slice none 0 0) [] [] [] [] [] :=
  ⟨lo, lo, lo, lo, lo, lo, ⟨Nat.le_refl _, Nat.le_refl _, Nat.le_refl _⟩, ⟨h1, h1, h1⟩, LV.zero _ _, (fun b hb => by rcases hb with e | e | e <;> cases e), TV.zero _ _ _ _ _, KV.zero _ _ _ _ _, .inl (Nat.le_refl _), .inl (Nat.le_refl _), .inl (Nat.le_refl _), by omega, by omega, by omega⟩
theorem Lay.onlyO {u u' : World} {b : Nat} {o : Option Nat} {vs : List Value} (h : Lay u b vs) (ho : OnlyO o u u') (hne : o ≠ some b) : Lay u' b vs :=
  ⟨fun j v hv => (ho.cell (p := ⟨b, j, none⟩) h.lt hne).trans (h.cell j v hv), fun k => (ho.frozen (p := ⟨b, k, none⟩) h.lt hne).trans (h.free k), Nat.lt_of_lt_of_le h.lt ho.size⟩
theorem LV.onlyOO {w w' : World} {lo g : Nat} {sT sO sP : Value} {T O P : List Q4} (h : LV w lo sT sO sP T O P) (ho : OnlyO (some g) w w') (hg : g < lo) : LV w' lo sT sO sP T O P :=
  h.onlyP (p := fun k => k = g) ⟨ho.os, ho.tape, ho.output, ho.size, fun k hk hn => ho.block k hk (fun e => hn (Option.some.inj e).symm)⟩ (fun b e e' => by have := (h.t.own e).1; omega) (fun b e e' => by have := (h.o.own e).1; omega) (fun b e e' => by have := (h.p.own e).1; omega)
theorem LV.onlyBig {w w' : World} {lo g : Nat} {sT sO sP : Value} {T O P : List Q4} (h : LV w lo sT sO sP T O P) (ho : OnlyO (some g) w w') (hg : w.heap.size ≤ g) : LV w' lo sT sO sP T O P :=
  h.onlyP (p := fun k => k = g) ⟨ho.os, ho.tape, ho.output, ho.size, fun k hk hn => ho.block k hk (fun e => hn (Option.some.inj e).symm)⟩ (fun b e e' => by have := (h.t.own e).2; omega) (fun b e e' => by have := (h.o.own e).2; omega) (fun b e e' => by have := (h.p.own e).2; omega)
/-- A place of which nothing is known. -/
def newPl : F8 := (60000, 0, [])
def newG : G8 := (60000, 0, .slice none 0 0)
theorem io_none (w : World) (lo hi : Nat) : IO w lo hi (.slice none 0 0) [] := ⟨none, 0, rfl, Nat.le_refl _, .inl rfl⟩
theorem row_places {w : World} {base n : Nat} {t : TypeId} {v : Value} (h : w.ownsRow base t 3 v n (flatF (List.replicate n newG))) : TV w base w.heap.size v (List.replicate n newPl) := by
  rcases h.2 with ⟨rfl, rfl⟩ | ⟨g, cap, cur, rfl, hb, hg, hnc, _⟩
  · exact .inr ⟨rfl, none, 0, rfl⟩
  · have hz := h.lt g rfl
    have hc : ∀ j u, (flatF (List.replicate n newG))[j]? = some u → w.cell? ⟨g, j, none⟩ = some u := fun j u hu => by
      have hj := (List.getElem?_eq_some_iff.1 hu).1
      rw [flatF_length, List.length_replicate] at hj
      exact (h.cellAt j hj).trans hu
    refine .inl ⟨g, cap, List.replicate n (.slice none 0 0), by rw [List.length_replicate], by rw [List.length_replicate]; exact hnc, ?_⟩
    rw [List.length_replicate]
    refine ⟨hb, hz.2, Nat.le_refl _, by simp, by simp, fun j hj => ⟨?_, h.frozenAt j⟩, fun i h1 h2 => ?_, fun i h1 h2 => ?_, fun i h1 => ?_, fun i j h1 h2 _ b hb' => ?_⟩
    · obtain ⟨u, hu⟩ : ∃ u, (flatF (List.replicate n newG))[j]? = some u := ⟨_, List.getElem?_eq_getElem (by rw [flatF_length, List.length_replicate]; exact hj)⟩
      exact ⟨u, hc j u hu⟩
    · rw [List.length_replicate] at h1
      obtain ⟨q0, q1, q2⟩ := flatF_get (List.replicate n newG) i (by rw [List.length_replicate]; exact h1)
      rw [List.getElem_replicate] at q0 q1 q2 ⊢
      rw [List.getElem_replicate]
      exact ⟨hc _ _ q0, hc _ _ q1, hc _ _ q2⟩
    · rw [List.getElem_replicate, List.getElem_replicate]
      exact io_none _ _ _
    · rw [List.getElem_replicate]
      intro e
      cases e
    · rw [List.getElem_replicate] at hb'
      cases hb'
theorem app_only {y wr w' : World} {g : Nat} {o : Obj} {row : Option Nat} (h : OnlyO (some g) y wr) (hg : (wr.alloc o).grownBy w' row) (hr : ∀ g', row = some g' → y.heap.size ≤ g') : OnlyO (some g) y w' := by
  have hz := h.size
  have b : Below y.heap.size wr w' := ((Below.refl wr.heap.size wr).alloc (Nat.le_refl _) o).mono hz |>.grown hg (by simp; omega) hr
  exact ⟨b.os.trans h.os, b.tape.trans h.tape, b.output.trans h.output, Nat.le_trans h.size b.size, fun k hk hn => (b.block k hk).trans (h.block k hk hn)⟩
theorem lay_app {wr w' : World} {g : Nat} {o : Obj} {row : Option Nat} {vs : List Value} (h : Lay wr g vs) (hg : (wr.alloc o).grownBy w' row) (hr : ∀ g', row = some g' → g' ≠ g) : Lay w' g vs := by
  have b : Below wr.heap.size wr (wr.alloc o) := new_below _ _
  have h1 := h.next b
  have ho : OnlyO row (wr.alloc o) w' := ⟨hg.os, hg.tape, hg.output, hg.size, fun k hk hn => hg.block k hk (fun e => hn e.symm)⟩
  exact h1.onlyO ho (fun e => hr g e rfl)
theorem three_newsE {w : World} {g : Nat} {u0 u1 u2 : Value} (h0 : w.cell? ⟨g, 0, none⟩ = some u0) (h1 : w.cell? ⟨g, 1, none⟩ = some u1) (h2 : w.cell? ⟨g, 2, none⟩ = some u2) : ∀ j v, [u0, u1, u2][j]? = some v → w.cell? ((⟨g, 0, none⟩ : Addr).add j) = some v := by
  intro j v hv
  match j, hv with
  | 0, hv => obtain rfl : u0 = v := by simpa using hv
             exact h0
  | 1, hv => obtain rfl : u1 = v := by simpa using hv
             exact h1
  | 2, hv => obtain rfl : u2 = v := by simpa using hv
             exact h2
/-- When NewEngine makes one, and which. -/
def nwB (T : List Q4) (n : Int) : Bool := newB_LendMath T 0 && inQ 1 n 10
def nwT (T : List Q4) (n : Int) : List Q4 := if nwB T n = true then newT T 0 else []
def nwO (T : List Q4) (n : Int) : List Q4 := if nwB T n = true then newO T 0 else []
def nwP (T : List Q4) (n : Int) : List Q4 := if nwB T n = true then newP T 0 else []
def nwL (T : List Q4) (n : Int) : List F8 := if nwB T n = true then List.replicate n.toNat newPl else []
theorem flatF_new (k : Nat) : flatF (List.replicate (k + 1) newG) = flatF (List.replicate k newG) ++ [.int .i64 60000, .int .i64 0, .slice none 0 0] := by
  rw [List.replicate_succ', flatF_append]
  rfl
end Go.Proofs.Ytibfclfidaofkas

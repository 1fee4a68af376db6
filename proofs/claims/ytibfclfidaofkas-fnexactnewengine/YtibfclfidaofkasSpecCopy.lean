/- What spec.l7Copy answers: three lists of one's own. -/
import Derived.Test.YtibfclfidaofkasGrpL
import Derived.Test.YtibfclfidaofkasGrpA
import Derived.Test.YtibfclfidaofkasGrpC
import Derived.Test.YtibfclfidaofkasLate
import Derived.Laws.OwnMore
import Derived.Deep.RegionHeld3
namespace Go.Proofs.Ytibfclfidaofkas
open Go.ChangeShapes Go.WideShapes Go.ChangeAt Go.RowKit
set_option maxRecDepth 100000
set_option linter.unusedVariables false
set_option linter.unusedSimpArgs false

theorem own_noneQ (w : World) (b : Nat) (hb : b ≤ w.heap.size) (t : TypeId) : (w.alloc (.cells #[] t)).ownsRow b t 4 (.slice (some ⟨w.heap.size, 0, none⟩) 0 0) 0 [] :=
  ⟨rfl, .inr ⟨w.heap.size, 0, #[], rfl, hb, heap_alloc_new _ _, Nat.le_refl _, by unfold maxLen; omega, rfl, rfl⟩⟩
theorem quad_news {w : World} {b off : Nat} {xs : List Q4} (h : Quad w.heap.size w (some ⟨b, off, none⟩) xs) : ∀ j u, (flatQ xs)[j]? = some u → w.cell? ((⟨b, off, none⟩ : Addr).add j) = some u := by
  intro j u hu
  have hj : j < xs.length * 4 := by
    rcases Nat.lt_or_ge j (xs.length * 4) with k | k
    · exact k
    · rw [List.getElem?_eq_none (by rw [flatQ_length]; exact k)] at hu
      cases hu
  have hadd : (⟨b, off, none⟩ : Addr).add j = ⟨b, off + j, none⟩ := by unfold Addr.add; split <;> simp_all
  rw [hadd]
  obtain ⟨f0, f1, f2, f3⟩ := flatQ_get xs (j / 4) (by omega)
  obtain ⟨c0, c1, c2, c3⟩ := h.cells (Below.refl _ _) (j / 4) (by omega)
  have hm : j % 4 = 0 ∨ j % 4 = 1 ∨ j % 4 = 2 ∨ j % 4 = 3 := by omega
  rcases hm with e | e | e | e
  · rw [show j / 4 * 4 = j by omega] at f0 c0
    rw [f0] at hu
    rw [c0]
    exact hu
  · rw [show j / 4 * 4 + 1 = j by omega] at f1
    rw [show off + j / 4 * 4 + 1 = off + j by omega] at c1
    rw [f1] at hu
    rw [c1]
    exact hu
  · rw [show j / 4 * 4 + 2 = j by omega] at f2
    rw [show off + j / 4 * 4 + 2 = off + j by omega] at c2
    rw [f2] at hu
    rw [c2]
    exact hu
  · rw [show j / 4 * 4 + 3 = j by omega] at f3
    rw [show off + j / 4 * 4 + 3 = off + j by omega] at c3
    rw [f3] at hu
    rw [c3]
    exact hu
/-- What the copy keeps: what came in and the answer's place; three rows so far. -/
structure CpSt (w W : World) (sT sO sP v0 v4 v8 : Value) (X0 X4 X8 : List Q4) : Prop where
  kept : Kept w [(w.heap.size, 0, sT), (w.heap.size, 1, sO), (w.heap.size, 2, sP), (w.heap.size + 1, 0, .slice none 0 0), (w.heap.size + 1, 1, .slice none 0 0), (w.heap.size + 1, 2, .slice none 0 0)] [w.heap.size + 1] W
  r0 : W.ownsRow (w.heap.size + 2) 81 4 v0 X0.length (flatQ X0)
  r4 : W.ownsRow (w.heap.size + 2) 57 4 v4 X4.length (flatQ X4)
  r8 : W.ownsRow (w.heap.size + 2) 57 4 v8 X8.length (flatQ X8)
  ap : ∀ g, v4.ownBlock = some g → v8.ownBlock ≠ some g
  sz : w.heap.size + 2 ≤ W.heap.size
section
variable {w W : World} {sT sO sP v0 v4 v8 : Value} {X0 X4 X8 : List Q4}
theorem CpSt.drew (d : CpSt w W sT sO sP v0 v4 v8 X0 X4 X8) : CpSt w W.drew sT sO sP v0 v4 v8 X0 X4 X8 := ⟨d.kept.drew, row_next d.r0 (Below.refl _ _).drew, row_next d.r4 (Below.refl _ _).drew, row_next d.r8 (Below.refl _ _).drew, d.ap, d.sz⟩
theorem CpSt.alloc0 (d : CpSt w W sT sO sP v0 v4 v8 X0 X4 X8) : CpSt w (W.alloc (.cells #[] 81)) sT sO sP (.slice (some ⟨W.heap.size, 0, none⟩) 0 0) v4 v8 [] X4 X8 :=
  ⟨d.kept.next (new_below _ _), own_noneQ W _ d.sz _, d.r4.alloc _, d.r8.alloc _, d.ap, Nat.le_trans d.sz (by simp)⟩
theorem CpSt.alloc4 (d : CpSt w W sT sO sP v0 v4 v8 X0 X4 X8) : CpSt w (W.alloc (.cells #[] 57)) sT sO sP v0 (.slice (some ⟨W.heap.size, 0, none⟩) 0 0) v8 X0 [] X8 :=
  ⟨d.kept.next (new_below _ _), d.r0.alloc _, own_noneQ W _ d.sz _, d.r8.alloc _, fun g e h => by
    have e1 : W.heap.size = g := Option.some.inj e
    have := (d.r8.lt g h).2
    omega, Nat.le_trans d.sz (by simp)⟩
theorem CpSt.alloc8 (d : CpSt w W sT sO sP v0 v4 v8 X0 X4 X8) : CpSt w (W.alloc (.cells #[] 57)) sT sO sP v0 v4 (.slice (some ⟨W.heap.size, 0, none⟩) 0 0) X0 X4 [] :=
  ⟨d.kept.next (new_below _ _), d.r0.alloc _, d.r4.alloc _, own_noneQ W _ d.sz _, fun g e h => by
    have e1 : W.heap.size = g := Option.some.inj h
    have := (d.r4.lt g e).2
    omega, Nat.le_trans d.sz (by simp)⟩
theorem CpSt.keeps (d : CpSt w W sT sO sP v0 v4 v8 X0 X4 X8) {W' : World} {row : Option Nat} (hg : W.grownBy W' row) (hr : ∀ g, row = some g → w.heap.size + 2 ≤ g) : Kept w [(w.heap.size, 0, sT), (w.heap.size, 1, sO), (w.heap.size, 2, sP), (w.heap.size + 1, 0, .slice none 0 0), (w.heap.size + 1, 1, .slice none 0 0), (w.heap.size + 1, 2, .slice none 0 0)] [w.heap.size + 1] W' := by
  refine d.kept.onlyO (OnlyO.of_grown hg) (fun j e => by have := hr j e; omega) (fun c hc e => ?_) (fun b hb e => ?_)
  · have := hr _ e
    simp only [List.mem_cons, List.not_mem_nil, or_false] at hc
    rcases hc with rfl | rfl | rfl | rfl | rfl | rfl <;> simp only at this <;> omega
  · have := hr _ e
    simp only [List.mem_cons, List.not_mem_nil, or_false] at hb
    omega
theorem CpSt.app0 (d : CpSt w W sT sO sP v0 v4 v8 X0 X4 X8) {W' : World} {v' : Value} {X : List Q4} (hg : W.grownBy W' v0.ownBlock) (ho : W'.ownsRow (w.heap.size + 2) 81 4 v' X.length (flatQ X)) : CpSt w W' sT sO sP v' v4 v8 X X4 X8 :=
  ⟨d.keeps hg (fun g e => (d.r0.lt g e).1), ho, d.r4.kept hg (rows_keep d.r4 d.r0 (by decide)), d.r8.kept hg (rows_keep d.r8 d.r0 (by decide)), d.ap, Nat.le_trans d.sz hg.size⟩
theorem CpSt.app4 (d : CpSt w W sT sO sP v0 v4 v8 X0 X4 X8) {W' : World} {v' : Value} {X : List Q4} (hg : W.grownBy W' v4.ownBlock) (ho : W'.ownsRow (w.heap.size + 2) 57 4 v' X.length (flatQ X)) (hb : v'.ownBlock = v4.ownBlock ∨ v'.ownBlock = some W.heap.size) : CpSt w W' sT sO sP v0 v' v8 X0 X X8 :=
  ⟨d.keeps hg (fun g e => (d.r4.lt g e).1), d.r0.kept hg (rows_keep d.r0 d.r4 (by decide)), ho, d.r8.kept hg (by
    cases h : v8.ownBlock with
    | none => exact .inl rfl
    | some g => exact .inr (fun e => d.ap g e.symm h)), fun g e h => by
    rcases hb with k | k
    · rw [k] at e
      exact d.ap g e h
    · rw [k] at e
      have e1 : W.heap.size = g := Option.some.inj e
      have := (d.r8.lt g h).2
      omega, Nat.le_trans d.sz hg.size⟩
theorem CpSt.app8 (d : CpSt w W sT sO sP v0 v4 v8 X0 X4 X8) {W' : World} {v' : Value} {X : List Q4} (hg : W.grownBy W' v8.ownBlock) (ho : W'.ownsRow (w.heap.size + 2) 57 4 v' X.length (flatQ X)) (hb : v'.ownBlock = v8.ownBlock ∨ v'.ownBlock = some W.heap.size) : CpSt w W' sT sO sP v0 v4 v' X0 X4 X :=
  ⟨d.keeps hg (fun g e => (d.r8.lt g e).1), d.r0.kept hg (rows_keep d.r0 d.r8 (by decide)), d.r4.kept hg (by
    cases h : v4.ownBlock with
    | none => exact .inl rfl
    | some g => exact .inr (fun e => d.ap g h e.symm)), ho, fun g e h => by
    rcases hb with k | k
    · rw [k] at h
      exact d.ap g e h
    · rw [k] at h
      have e1 : W.heap.size = g := Option.some.inj h
      have := (d.r4.lt g e).2
      omega, Nat.le_trans d.sz hg.size⟩
theorem CpSt.S (d : CpSt w W sT sO sP v0 v4 v8 X0 X4 X8) : W.cell? ⟨w.heap.size, 0, none⟩ = some sT ∧ W.cell? ⟨w.heap.size, 1, none⟩ = some sO ∧ W.cell? ⟨w.heap.size, 2, none⟩ = some sP := by
  obtain ⟨⟨_, k0⟩, ⟨_, k1⟩, ⟨_, k2⟩, _⟩ := d.kept.cells
  exact ⟨k0, k1, k2⟩
end
/-- Three lists in blocks of their own: an answer. -/
def CpPost (w : World) (T O P : List Q4) (e : Ending) (w' : World) : Prop := ∃ gT cT gO cO gP cP, e = .returned (lendV (some ⟨gT, 0, none⟩) T.length cT (some ⟨gO, 0, none⟩) O.length cO (some ⟨gP, 0, none⟩) P.length cP) ∧
  w'.ownsRow w.heap.size 81 4 (.slice (some ⟨gT, 0, none⟩) T.length cT) T.length (flatQ T) ∧ w'.ownsRow w.heap.size 57 4 (.slice (some ⟨gO, 0, none⟩) O.length cO) O.length (flatQ O) ∧
  w'.ownsRow w.heap.size 57 4 (.slice (some ⟨gP, 0, none⟩) P.length cP) P.length (flatQ P) ∧ gO ≠ gP ∧ Below w.heap.size w w'
theorem row_lowC {w : World} {b b' : Nat} {e : TypeId} {s n : Nat} {v : Value} {xs : List Value} (h : w.ownsRow b e s v n xs) (hb : b' ≤ b) : w.ownsRow b' e s v n xs :=
  ⟨h.1, by
    rcases h.2 with k | ⟨g, cap, cur, h1, h2, h3⟩
    · exact .inl k
    · exact .inr ⟨g, cap, cur, h1, by omega, h3⟩⟩
theorem own_someC {w : World} {base : Nat} {e : TypeId} {s n : Nat} {v : Value} {xs : List Value} (h : w.ownsRow base e s v n xs) (hn : 1 ≤ n) : ∃ g cap, v = .slice (some ⟨g, 0, none⟩) n cap ∧ base ≤ g ∧ g < w.heap.size := by
  rcases h.2 with ⟨rfl, h0⟩ | ⟨g, cap, cur, rfl, hb, _⟩
  · omega
  · exact ⟨g, cap, rfl, hb, (h.lt g rfl).2⟩
theorem cp_fin {w W : World} {sT sO sP : Value} {g3 k3 g7 k7 g11 k11 : Nat} {T O P : List Q4} (d : CpSt w W sT sO sP (.slice (some ⟨g3, 0, none⟩) T.length k3) (.slice (some ⟨g7, 0, none⟩) O.length k7) (.slice (some ⟨g11, 0, none⟩) P.length k11) T O P) {a b c : Value} :
    CpPost w T O P (.returned (lendV (some ⟨g3, 0, none⟩) T.length k3 (some ⟨g7, 0, none⟩) O.length k7 (some ⟨g11, 0, none⟩) P.length k11)) (((W.setCell ⟨w.heap.size + 1, 0, none⟩ a).setCell ⟨w.heap.size + 1, 1, none⟩ b).setCell ⟨w.heap.size + 1, 2, none⟩ c) :=
  ⟨g3, k3, g7, k7, g11, k11, rfl, row_lowC (row_set (row_set (row_set d.r0 (by omega)) (by omega)) (by omega)) (by omega), row_lowC (row_set (row_set (row_set d.r4 (by omega)) (by omega)) (by omega)) (by omega), row_lowC (row_set (row_set (row_set d.r8 (by omega)) (by omega)) (by omega)) (by omega),
    fun e => d.ap g7 rfl (by rw [e]; rfl), ((d.kept.hb.setCell (by simp) _).setCell (by simp) _).setCell (by simp) _⟩
end Go.Proofs.Ytibfclfidaofkas
